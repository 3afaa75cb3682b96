/- The tied card of downpourlaw12.DecodeImage. -/
import Derived.Test.YtpmmolamdlcmnaaGreatDoorZ17
namespace Go.Proofs.YtpmmolamdlcmnaaGreatDoor.Dc
open Go.RowKit
open VecM RdM Vc Sp Pc El Cd
/-- the bits alone, behind i symbols -/
def matG (s K P : Nat) (f : Nat → Nat) : Nat → Mx
  | 0 => matR s K P 1 P
  | i + 1 => (addMx (K + P) (matG s K P f i) (spX s K P (f i)) [0]).1
theorem matG_got {s K P : Nat} (f : Nat → Nat) (hn : K + P ≤ 80) : ∀ i, Got (K + P) 1 (matG s K P f i) (fun X => parP s K P X ∨ ∃ j, j < i ∧ X = spX s K P (f j))
  | 0 => (matR_got hn P (Nat.le_refl _)).congr fun X => ⟨.inl, fun h => h.elim id fun ⟨j, hj, _⟩ => absurd hj (Nat.not_lt_zero j)⟩
  | i + 1 => by
    refine ((matG_got f hn i).add (by omega) (spX_lt (s := s) (id := f i)) (l := [0]) rfl).congr fun X => ⟨?_, ?_⟩
    · rintro ((h | ⟨j, hj, e⟩) | e)
      · exact .inl h
      · exact .inr ⟨j, by omega, e⟩
      · exact .inr ⟨i, by omega, e⟩
    · rintro (h | ⟨j, hj, e⟩)
      · exact .inl (.inl h)
      · by_cases h : j < i
        · exact .inl (.inr ⟨j, h, e⟩)
        · exact .inr (by rw [e, show j = i by omega])
theorem matG_new {s K P Z : Nat} {img : List UInt8} (f : Nat → Nat) (hK : 1 ≤ K) (hn : K + P ≤ 80) (i : Nat) (X : Nat) (l m : List UInt8) : (addMx (K + P) (matG s K P f i) X l).2 = (addMx (K + P) (matF s K P Z img f i) X m).2 := by
  rw [Bool.eq_iff_iff, (matG_got f hn i).says, (matF_got f hK hn i).says]
theorem matG_rank {s K P Z : Nat} {img : List UInt8} (f : Nat → Nat) (hK : 1 ≤ K) (hn : K + P ≤ 80) : ∀ i, rankM (matG s K P f i) = rankM (matF s K P Z img f i)
  | 0 => by show rankM (matR s K P 1 P) = rankM (matR s K P Z P); rw [matR_rank hn P (Nat.le_refl _), matR_rank hn P (Nat.le_refl _)]
  | i + 1 => by
    rw [matF_step f hK hn i, ← matG_rank f hK hn i, ← matG_new f hK hn i _ [0]]
    exact rank_add (matG_got f hn i).inv (by omega) (spX_lt (s := s) (id := f i)) rfl
theorem says_add {n z : Nat} {M : Mx} (h : Inv n z M) (X : Nat) (l : List UInt8) : decide ((redM M X [] n).1 ≠ 0) = (addMx n M X l).2 := by
  rw [Bool.eq_iff_iff, addMx_new h, decide_eq_true_eq, Ne, ker_red h]
theorem says_again {s K P Z : Nat} {img : List UInt8} (f : Nat → Nat) (hK : 1 ≤ K) (hn : K + P ≤ 80) (i : Nat) : decide ((redM (matF s K P Z img f (i + 1)) (spX s K P (f i)) [] (K + P)).1 ≠ 0) = false := by
  rw [says_add (matF_got f hK hn (i + 1)).inv _ [], Bool.eq_false_iff]
  intro h
  exact ((matF_got f hK hn (i + 1)).says _ _).1 h (.one (.inr ⟨i, by omega, rfl⟩))
theorem matF_all {s K P Z : Nat} {img : List UInt8} (f : Nat → Nat) (hK : 1 ≤ K) (hn : K + P ≤ 80) (m : Nat) (h : ∀ i, i < K → ∃ j, j < m ∧ f j = i) : rankM (matF s K P Z img f m) = K + P := by
  refine got_full (matF_got f hK hn m) (fun j hj => .inl ⟨j, hj, rfl⟩) fun i hi => ?_
  obtain ⟨j, hj, e⟩ := h i hi
  exact .inr ⟨j, hj, by rw [e, spX_one hi]⟩
/-- two objects, apart -/
def pairO (A B : Obj) : Obj := fun W F => ∃ G H, A W G ∧ B W H ∧ (∀ b, G b → H b → False) ∧ (∀ b, F b ↔ G b ∨ H b)
theorem keeps_pair {A B : Obj} (kA : Keeps A) (kB : Keeps B) : Keeps (pairO A B) := fun W W' F ⟨G, H, a, b, h1, h2⟩ hk hs =>
  ⟨G, H, kA W W' G a (fun q hq hl => hk q ((h2 q).2 (.inl hq)) hl) hs, kB W W' H b (fun q hq hl => hk q ((h2 q).2 (.inr hq)) hl) hs, h1, h2⟩
theorem Sep3.ex {A B C D : Obj} {w0 W : World} (h : Sep3 A B (pairO C D) w0 W) : Sep3 C B (pairO A D) w0 W := by
  obtain ⟨F, G, H, a, b, ⟨H1, H2, c, d, h0, h8⟩, h1, h2, h3, h4, h5⟩ := h
  refine ⟨H1, G, fun b => F b ∨ H2 b, c, b, ⟨F, H2, a, d, fun q x y => h2 q x ((h8 q).2 (.inr y)), fun q => Iff.rfl⟩, fun q x y => h3 q y ((h8 q).2 (.inl x)), ?_, ?_, ?_, h5⟩
  · rintro q x (y | y)
    · exact h2 q y ((h8 q).2 (.inl x))
    · exact h0 q x y
  · rintro q x (y | y)
    · exact h1 q y x
    · exact h3 q x ((h8 q).2 (.inr y))
  · rintro q (x | x | x | x)
    · exact h4 q (.inr (.inr ((h8 q).2 (.inl x))))
    · exact h4 q (.inr (.inl x))
    · exact h4 q (.inl x)
    · exact h4 q (.inr (.inr ((h8 q).2 (.inr x))))
theorem Sep3.drop {A B C D : Obj} {w0 W : World} (h : Sep3 A B (pairO C D) w0 W) : Sep3 A B C w0 W := by
  obtain ⟨F, G, H, a, b, ⟨H1, H2, c, d, h0, h8⟩, h1, h2, h3, h4, h5⟩ := h
  refine ⟨F, G, H1, a, b, c, h1, fun q x y => h2 q x ((h8 q).2 (.inl y)), fun q x y => h3 q x ((h8 q).2 (.inl y)), ?_, h5⟩
  rintro q (x | x | x)
  · exact h4 q (.inl x)
  · exact h4 q (.inr (.inl x))
  · exact h4 q (.inr (.inr ((h8 q).2 (.inl x))))
theorem Sep3.look4 {A B C D : Obj} {w0 W : World} (h : Sep3 A B (pairO C D) w0 W) : ∃ F, D W F := by
  obtain ⟨F, G, H, a, b, ⟨H1, H2, c, d, h0, h8⟩, h1, h2, h3, h4, h5⟩ := h
  exact ⟨H2, d⟩
/-- a fourth object that is made -/
theorem Sep3.create4 {A B C D : Obj} {w0 w w' : World} (h : Sep3 A B C w0 w) (kA : Keeps A) (kB : Keeps B) (kC : Keeps C) (hb : Below w.heap.size w w') (hd : D w' (fun b => w.heap.size ≤ b ∧ b < w'.heap.size)) : Sep3 A B (pairO C D) w0 w' := by
  obtain ⟨F, G, H, a, b, c, h1, h2, h3, h4, h5⟩ := h
  have hs := hb.size
  have hs5 := h5.size
  refine ⟨F, G, fun b => H b ∨ (w.heap.size ≤ b ∧ b < w'.heap.size), kA w w' F a (fun q _ hl => hb.block q hl) hs, kB w w' G b (fun q _ hl => hb.block q hl) hs, ⟨H, _, kC w w' H c (fun q _ hl => hb.block q hl) hs, hd, ?_, fun q => Iff.rfl⟩, h1, ?_, ?_, ?_, h5.trans (hb.mono hs5)⟩
  · intro q x y
    have := (h4 q (.inr (.inr x))).2; omega
  · rintro q x (y | y)
    · exact h2 q x y
    · have := (h4 q (.inl x)).2; omega
  · rintro q x (y | y)
    · exact h3 q x y
    · have := (h4 q (.inr (.inl x))).2; omega
  · rintro q (x | x | x | x)
    · have := h4 q (.inl x); exact ⟨this.1, by omega⟩
    · have := h4 q (.inr (.inl x)); exact ⟨this.1, by omega⟩
    · have := h4 q (.inr (.inr x)); exact ⟨this.1, by omega⟩
    · exact ⟨by omega, x.2⟩
/-- a list that is read -/
def allO (A : Option Addr) (xs : List Value) : Obj := fun W F => ∀ j u, xs[j]? = some u → ∃ g o, A = some ⟨g, o, none⟩ ∧ F g ∧ g < W.heap.size ∧ W.cell? ⟨g, o + j, none⟩ = some u
theorem keeps_all (A : Option Addr) (xs : List Value) : Keeps (allO A xs) := fun W W' F h hk hs j u hu => by
  obtain ⟨g, o, e, hF, hl, hc⟩ := h j u hu
  exact ⟨g, o, e, hF, Nat.lt_of_lt_of_le hl hs, (World.cell?_of_block (w := W) (hk g hF hl)).trans hc⟩
theorem all_own {W : World} {base n c : Nat} {e : TypeId} {A : Option Addr} {xs : List Value} (h : W.ownsRow base e 1 (.slice A n c) n xs) : allO A xs W (fun b => base ≤ b ∧ b < W.heap.size) := fun j u hu => by
  have hl : j < xs.length := (List.getElem?_eq_some_iff.1 hu).1
  have hr := Row.of_own h
  have hn : xs.length = n := by simpa using h.1
  obtain ⟨g, o, e1, hlt, hc⟩ := hr.2 (by omega)
  rcases h.2 with ⟨hv, h0⟩ | ⟨g2, cap, cur, hv, hg, _⟩
  · omega
  · injection hv with e2
    rw [e1] at e2
    injection e2 with e2
    injection e2 with e2
    exact ⟨g, o, e1, ⟨by omega, hlt⟩, hlt, hc j u hu⟩
/-- the rows of parity, as a list -/
def rowsO (gA : Nat) (gs hs : Nat → Nat) (s K P : Nat) : Obj := fun W F => ∀ k, k < P → F gA ∧ F (gs k) ∧ F (hs k) ∧ gA < W.heap.size ∧ W.cell? ⟨gA, k, none⟩ = some (.pointer (some ⟨gs k, 0, none⟩)) ∧ VecAt W (gs k) (hs k) (K + P) (parJ s K k)
theorem keeps_rows (gA : Nat) (gs hs : Nat → Nat) (s K P : Nat) : Keeps (rowsO gA gs hs s K P) := fun W W' F h hk hsz k hlt => by
  obtain ⟨f1, f2, f3, hl, hc, hv⟩ := h k hlt
  exact ⟨f1, f2, f3, Nat.lt_of_lt_of_le hl hsz, (World.cell?_of_block (w := W) (hk gA f1 hl)).trans hc, hv.keep (hk _ f2 hv.lt.1) (hk _ f3 hv.lt.2)⟩
end Go.Proofs.YtpmmolamdlcmnaaGreatDoor.Dc
namespace Go.Proofs.YtpmmolamdlcmnaaGreatDoor.Dc
open Go.RowKit
open VecM RdM Vc Sp Pc El Cd
def uv (l : List Nat) : List Value := l.map fun x : Nat => .int .u32 (x : Int)
theorem uv_one (l : List Nat) : ∀ u ∈ uv l, u.oneCell' = true := by
  intro u hu
  simp only [uv, List.mem_map] at hu
  obtain ⟨x, _, rfl⟩ := hu
  rfl
theorem uv_append (l m : List Nat) : uv (l ++ m) = uv l ++ uv m := by simp [uv]
theorem uv_length (l : List Nat) : (uv l).length = l.length := by simp [uv]
theorem uv_get {l : List Nat} {i : Nat} (h : i < l.length) : (uv l)[i]? = some (.int .u32 ((l.getD i 0 : Nat) : Int)) := by
  simp [uv, h]
/-- the numbers that are added, k of them -/
def exN (rest : Bool) (K k : Nat) : List Nat := if rest then (List.range k).map fun i => K - 1 - i else []
theorem exN_snoc (K k : Nat) : exN true K (k + 1) = exN true K k ++ [K - 1 - k] := by
  simp [exN, List.range_succ]
theorem exN_len (rest : Bool) (K k : Nat) : (exN rest K k).length = if rest then k else 0 := by
  cases rest <;> simp [exN]
def first (us : List Nat) (m : Nat) : List Nat := (List.range m).map fun i => us.getD i 0
theorem first_len (us : List Nat) (m : Nat) : (first us m).length = m := by simp [first]
theorem all_lt {us : List Nat} {m K k : Nat} {rest : Bool} (hu : ∀ i, i < m → us.getD i 0 < 4294967296) (hK : K ≤ 64) (i : Nat) : (first us m ++ exN rest K k).getD i 0 < 4294967296 := by
  rw [List.getD_eq_getElem?_getD]
  cases h : (first us m ++ exN rest K k)[i]? with
  | none => simp
  | some x =>
    have hm := List.mem_of_getElem? h
    rcases List.mem_append.1 hm with h1 | h1
    · obtain ⟨j, hj, rfl⟩ := List.mem_map.1 h1
      exact hu j (List.mem_range.1 hj)
    · cases rest with
      | false => simp [exN] at h1
      | true =>
        simp only [exN, if_true] at h1
        obtain ⟨j, hj, rfl⟩ := List.mem_map.1 h1
        show K - 1 - j < 4294967296
        omega
theorem all_has {us : List Nat} {m K : Nat} {i : Nat} (hi : i < K) : ∃ j, j < (first us m ++ exN true K K).length ∧ (first us m ++ exN true K K).getD j 0 = i := by
  refine ⟨m + (K - 1 - i), ?_, ?_⟩
  · rw [List.length_append, first_len, exN_len]; simp; omega
  · rw [List.getD_eq_getElem?_getD, List.getElem?_append_right (by rw [first_len]; omega), first_len, Nat.add_sub_cancel_left]
    have h2 : K - 1 - i < K := by omega
    simp only [exN, if_true, List.getElem?_map, List.getElem?_range h2, Option.map_some, Option.getD_some]
    omega
theorem first_row {W : World} {B m : Nat} {us : List Nat} {U : Option Addr} (hu : ∀ i, i < m → ∃ b o, U = some ⟨b, o, none⟩ ∧ b < B ∧ W.cell? ⟨b, o + i, none⟩ = some (.int .u32 ((us.getD i 0 : Nat) : Int))) : Row W B U m (uv (first us m)) := by
  refine ⟨by rw [uv_length, first_len], fun hn => ?_⟩
  obtain ⟨b, o, e, hb, _⟩ := hu 0 (by omega)
  refine ⟨b, o, e, hb, fun j u hj => ?_⟩
  have hl : j < m := by
    have := (List.getElem?_eq_some_iff.1 hj).1
    rwa [uv_length, first_len] at this
  obtain ⟨b2, o2, e2, _, hc⟩ := hu j hl
  rw [e] at e2
  injection e2 with e2
  injection e2 with e3 e4
  subst e3 e4
  rw [hc, ← hj, uv_get (by rw [first_len]; exact hl)]
  simp [first, List.getD, hl]
theorem one_row (w : World) : Row (w.alloc (.cells #[.int .u8 0] 5)) (w.alloc (.cells #[.int .u8 0] 5)).heap.size (some ⟨w.heap.size, 0, none⟩) ([0] : List UInt8).length (bv [0]) := zero_row 1 (by omega) w
theorem rows_obj {s K P gA : Nat} {gs hs : Nat → Nat} {w w' : World} (hv : w.heap.size ≤ gA ∧ VRows s K P P gA gs hs w') (ho : w'.ownsRow w.heap.size 46 1 (.slice (some ⟨gA, 0, none⟩) P P) P (pvk gs P P)) : rowsO gA gs hs s K P w' (fun b => w.heap.size ≤ b ∧ b < w'.heap.size) := fun k hk => by
  obtain ⟨a, b, c⟩ := hv.2 k hk
  have hl := (ho.lt gA rfl).2
  have h1 := (ho.cellAt k (by omega)).trans (pvk_get gs P P k hk)
  rw [if_pos hk] at h1
  exact ⟨⟨hv.1, hl⟩, ⟨by omega, c.lt.1⟩, ⟨by omega, c.lt.2⟩, hl, h1, c⟩
end Go.Proofs.YtpmmolamdlcmnaaGreatDoor.Dc
namespace Go.Proofs.YtpmmolamdlcmnaaGreatDoor.Dc
open Go.RowKit
open VecM RdM Vc Sp Pc El Cd
set_option maxRecDepth 100000 in
set_option maxHeartbeats 12800000 in
theorem dcimg_walk (s n c m cu : Nat) (rest : Bool) (us : List Nat) (K0 P0 Z0 : Int) (A U : Option Addr) (l : List UInt8) (w : World) (ht : DTab w) (hs : s < 4294967296) (hr : Row w w.heap.size A n (bv l)) (hn : n ≤ c ∧ c ≤ 9223372036854775807)
    (hu : ∀ i, i < m → ∃ b o, U = some ⟨b, o, none⟩ ∧ b < w.heap.size ∧ w.cell? ⟨b, o + i, none⟩ = some (.int .u32 ((us.getD i 0 : Nat) : Int)) ∧ us.getD i 0 < 4294967296) :
    Calls Tryz.prog 4 #[parV s K0 P0 Z0, .slice A n c, .slice U m cu, .bool rest] w fun e w' => e = .returned (.bool true) ∧ Below w.heap.size w w' := by
  have HU := Lib.hid hu
  clear hu
  have hal : Below w.heap.size w (w.alloc (.cells #[.int .u32 (s : Int), .int .i64 K0, .int .i64 P0, .int .i64 Z0] 35)) := (Below.refl _ _).alloc (Nat.le_refl _) _
  have hx := heap_alloc_new w (.cells #[.int .u32 (s : Int), .int .i64 K0, .int .i64 P0, .int .i64 Z0] 35)
  have hz : (w.alloc (.cells #[.int .u32 (s : Int), .int .i64 K0, .int .i64 P0, .int .i64 Z0] 35)).heap.size = w.heap.size + 1 := by simp
  have HT := Lib.hid ht
  have HSO := Lib.hid (sound12_any s n c w.heap.size K0 P0 Z0 A l (w.alloc (.cells #[.int .u32 (s : Int), .int .i64 K0, .int .i64 P0, .int .i64 Z0] 35)) (hr.below hal) hn hal.size)
  have HAL := Lib.hid hal
  have HX := Lib.hid hx
  have HZ := Lib.hid hz
  obtain ⟨a0, a1, a2, a3⟩ := box4 hx
  have HS := Lib.hid hs
  unfold parV at HSO ⊢
  clear hal hx hz ht hr hn hs
  go_enter Tryz.func4, Tryz.ntmps4
  go_upto_region 1 with fail
  generalize (w.alloc (.cells #[.int .u32 (s : Int), .int .i64 K0, .int .i64 P0, .int .i64 Z0] 35)) = w0 at *
  go_wp2_with fail
  refine HSO.out.mono ?_
  rintro e w1 ⟨kk, P, Z, A1, c1, img, rfl, hf, ho, hb1⟩
  have hx1 := (hb1.out.block w.heap.size (by have := HZ.out; omega)).trans HX.out
  obtain ⟨b0, b1, b2, b3⟩ := box4 hx1
  obtain ⟨f0, f1, f2, f3⟩ := frozenBox hx1
  have HX2 := Lib.hid (setBox hx1 (.int .u32 (s : Int)) (.int .i64 (kk : Int)) (.int .i64 (P : Int)) (.int .i64 (Z : Int)))
  have HB1 := hb1
  have HO2 := Lib.hid (own_set4 ho.out (b := w.heap.size) (by have := HZ.out; omega) (.int .u32 (s : Int)) (.int .i64 (kk : Int)) (.int .i64 (P : Int)) (.int .i64 (Z : Int)))
  have HB2 := Lib.hid (below_set4 (b := w.heap.size) (HAL.out.trans (HB1.out.mono HAL.out.size)) (Nat.le_refl _) (.int .u32 (s : Int)) (.int .i64 (kk : Int)) (.int .i64 (P : Int)) (.int .i64 (Z : Int)))
  clear a0 a1 a2 a3 hx1 HSO hb1 ho HB1
  unfold parV
  go_upto_region 2 with fail
  clear b0 b1 b2 b3 f0 f1 f2 f3
  generalize ((((w1.setCell ⟨w.heap.size, 0, none⟩ (.int .u32 (s : Int))).setCell ⟨w.heap.size, 1, none⟩ (.int .i64 (kk : Int))).setCell ⟨w.heap.size, 2, none⟩ (.int .i64 (P : Int))).setCell ⟨w.heap.size, 3, none⟩ (.int .i64 (Z : Int))) = w2 at *
  obtain ⟨HK, HP, HZZ, HI, HCN⟩ : Hid (1 ≤ kk ∧ kk ≤ 64) ∧ Hid (P ≤ 16) ∧ Hid (1 ≤ Z ∧ Z ≤ 16) ∧ Hid (1 ≤ img.length ∧ img.length ≤ 201) ∧ Hid (BlkM.count (img.length : Int) (Z : Int) = kk) := hf.out
  have hcap := own_cap HO2.out
  have hlt2 : w.heap.size < w2.heap.size := (Array.getElem?_eq_some_iff.1 HX2.out).1
  have HLT2 := Lib.hid hlt2
  clear hf hcap hlt2
  have HFX : Hid (∀ W, Below w2.heap.size w2 W → (W.cell? ⟨w.heap.size, 0, none⟩ = some (.int .u32 (s : Int)) ∧ W.cell? ⟨w.heap.size, 1, none⟩ = some (.int .i64 (kk : Int)) ∧ W.cell? ⟨w.heap.size, 2, none⟩ = some (.int .i64 (P : Int)) ∧ W.cell? ⟨w.heap.size, 3, none⟩ = some (.int .i64 (Z : Int))) ∧ True) := Lib.hid fun W hW => ⟨box4 ((hW.block w.heap.size HLT2.out).trans HX2.out), trivial⟩
  have HIM : Hid (∀ W, Below w2.heap.size w2 W → Row W w2.heap.size A1 img.length (bv img)) := Lib.hid fun W hW => (Row.of_own HO2.out).below hW
  have HDT : Hid (∀ W, Below w2.heap.size w2 W → DTab W) := Lib.hid fun W hW => HT.out.grow (HB2.out.trans (hW.mono HB2.out.size))
  have HUW : Hid (∀ W, Below w2.heap.size w2 W → ∀ i, i < m → ∃ b o, U = some ⟨b, o, none⟩ ∧ b < w.heap.size ∧ W.cell? ⟨b, o + i, none⟩ = some (.int .u32 ((us.getD i 0 : Nat) : Int))) := Lib.hid fun W hW i hi => by
    obtain ⟨b, o, e, hb, hc, hl⟩ := HU.out i hi
    refine ⟨b, o, e, hb, ?_⟩
    rw [(HB2.out.trans (hW.mono HB2.out.size)).cell (p := ⟨b, o + i, none⟩) hb]
    exact hc
  have HN80 : Hid (kk + P ≤ 80) := Lib.hid (by have := HK.out; have := HP.out; omega)
  clear HX2 HT
  by_cases h100 : 100 < m
  · have h100i : (100 : Int) < (m : Int) := by omega
    go_wp2_with fail
    refine (awake12_any w2 (HDT.out w2 (Below.refl _ _))).mono ?_
    rintro e w9 ⟨rfl, hb9⟩
    have HB9 := Lib.hid (HB2.out.trans (hb9.out.mono HB2.out.size))
    clear hb9
    go_wp2_with fail
    go_ret
    exact ⟨rfl, HB9.out⟩
  · have h100i : ¬ ((100 : Int) < (m : Int)) := by omega
    have hm100 : (m : Int) ≤ 100 := by omega
    go_upto_region 4 with fail
    go_cut [9, 10] (fun s9 s10 wx => ∃ g ga : Nat, s9 = .pointer (some ⟨g, 0, none⟩) ∧ s10 = .pointer (some ⟨ga, 0, none⟩) ∧ Hid (Sep3 (decO ga s kk P Z (matR s kk P Z P) 0) (headO s kk P Z img g) noObj w2 wx))
    case first =>
      refine wp_region_noPanic ?_
      refine wp_region_held_drew (S := (fun W => Below (w2.heap.size) w2 W)) (by kernel_rfl) (Below.refl _ _).drew (fun hH0 => ?_)
      have hH0 : Below (w2.heap.size) w2 w2.drew := hH0
      have S0D : Hid (Sep3 noObj noObj noObj w2 w2.drew) := Lib.hid ((Sep3.start w2).below keeps_no keeps_no keeps_no (Below.refl _ _).drew)
      generalize w2.drew = wd2000 at *
      refine wpAnyH_take (i := 0) (oi := { dst := some 31, op := Op.load 35 (Operand.tmp 4), type := 35, pos := "law.go:78", after := #[], guard := none }) (v := ?tkv2001) rfl (by kernel_rfl) (by kernel_rfl) (by kernel_rfl) (fun _ _ _ h => h) (Or.inl ⟨by rfl, ?tky2001⟩) hH0 ?tkr2001
      case tky2001 => (intro w' hSw; have z0 := HFX.out _ hSw; clear hSw; go_simp; try with_reducible rfl)
      try simp only [Act.put, List.setIfInBounds_toArray, List.set_cons_zero, List.set_cons_succ]
      refine wpAnyH_take (i := 1) (oi := { dst := some 32, op := Op.move (Operand.tmp 1), type := 23, pos := "law.go:78", after := #[], guard := none }) (v := ?tkv2002) rfl (by kernel_rfl) (by kernel_rfl) (by kernel_rfl) (fun _ _ _ h => h) (Or.inl ⟨by rfl, ?tky2002⟩) hH0 ?tkr2002
      case tky2002 => (intro w' hSw; clear hSw; go_simp; try with_reducible rfl)
      try simp only [Act.put, List.setIfInBounds_toArray, List.set_cons_zero, List.set_cons_succ]
      refine wpAnyH_take (i := 3) (oi := { dst := some 34, op := Op.load 35 (Operand.tmp 4), type := 35, pos := "law.go:78", after := #[], guard := none }) (v := ?tkv2003) rfl (by kernel_rfl) (by kernel_rfl) (by kernel_rfl) (fun _ _ _ h => h) (Or.inl ⟨by rfl, ?tky2003⟩) hH0 ?tkr2003
      case tky2003 => (intro w' hSw; have z0 := HFX.out _ hSw; clear hSw; go_simp; try with_reducible rfl)
      try simp only [Act.put, List.setIfInBounds_toArray, List.set_cons_zero, List.set_cons_succ]
      refine wpAnyH_ready (rs := [2]) (by kernel_rfl) (by simp) ?_
      refine AllReadyH.cons (o := { dst := some 33, op := Op.call { callee := Callee.value (Operand.func 15), args := #[Operand.tmp 31, Operand.tmp 32], argTypes := #[35, 23] }, type := 39, pos := "law.go:78", after := #[{ on := 0, ground := Ground.data }, { on := 1, ground := Ground.data }], guard := none }) rfl (fun K hK => ?_) AllReadyH.nil
      go_simp
      refine (new_yes s kk P Z w2.heap.size c1 A1 img wd2000 HK.out HP.out HZZ.out (HIM.out wd2000 (hH0)) (hH0).size (by have := HI.out; omega) HCN.out).mono ?_
      rintro e' wn2004 ⟨g2004, rfl, hg2004, _, hq2004, hb2004'⟩
      have hb2004 := hb2004'.out
      have SS2004 := Lib.hid ((S0D.out.swap.create (A' := headO s kk P Z img g2004) keeps_no keeps_no hb2004 (head_new hq2004.out hg2004)).swap)
      clear hq2004 hg2004 hb2004'
      go_simp
      have hS2004 : Below (w2.heap.size) w2 wn2004 := (hH0).trans (hb2004.mono (hH0).size)
      refine hK.out _ _ hS2004 (fun hH2004 => ?_)
      have hH2004 : Below (w2.heap.size) w2 wn2004 := hH2004
      clear hK K hS2004
      try simp only [Act.put, List.setIfInBounds_toArray, List.set_cons_zero, List.set_cons_succ]
      refine wpAnyH_ready (rs := [4]) (by kernel_rfl) (by simp) ?_
      refine AllReadyH.cons (o := { dst := some 35, op := Op.call { callee := Callee.value (Operand.func 16), args := #[Operand.tmp 34], argTypes := #[35] }, type := 26, pos := "law.go:78", after := #[{ on := 3, ground := Ground.data }, { on := 2, ground := Ground.chain }], guard := none }) rfl (fun K hK => ?_) AllReadyH.nil
      go_simp
      refine (newD s kk P Z wn2004 HS.out HK.out HP.out HZZ.out (HDT.out wn2004 (hH2004))).mono ?_
      rintro e' wn2005 ⟨gd2005, rfl, hd2005, _, hb2005'⟩
      have hb2005 := hb2005'.out
      have SS2005 := Lib.hid (SS2004.out.create (A' := decO gd2005 s kk P Z (matR s kk P Z P) 0) (keeps_head _ _ _ _ _ _) keeps_no hb2005 hd2005.out)
      clear hd2005 hb2005'
      go_simp
      have hS2005 : Below (w2.heap.size) w2 wn2005 := (hH2004).trans (hb2005.mono (hH2004).size)
      refine hK.out _ _ hS2005 (fun hH2005 => ?_)
      have hH2005 : Below (w2.heap.size) w2 wn2005 := hH2005
      clear hK K hS2005
      try simp only [Act.put, List.setIfInBounds_toArray, List.set_cons_zero, List.set_cons_succ]
      refine wpAnyH_take (i := 5) (oi := { dst := some 9, op := Op.assign (Operand.tmp 33), type := 39, pos := "law.go:78", after := #[{ on := 2, ground := Ground.data }, { on := 4, ground := Ground.chain }, { on := 0, ground := Ground.phase }, { on := 1, ground := Ground.phase }, { on := 2, ground := Ground.phase }, { on := 3, ground := Ground.textOnly Departure.lateStores }, { on := 4, ground := Ground.textOnly Departure.lateStoresUnsure }], guard := none }) (v := ?tkv2006) rfl (by kernel_rfl) (by kernel_rfl) (by kernel_rfl) (fun _ _ _ h => h) (Or.inl ⟨by rfl, ?tky2006⟩) hH2005 ?tkr2006
      case tky2006 => (intro w' hSw; clear hSw; go_simp; try with_reducible rfl)
      try simp only [Act.put, List.setIfInBounds_toArray, List.set_cons_zero, List.set_cons_succ]
      refine wpAnyH_take (i := 6) (oi := { dst := some 10, op := Op.assign (Operand.tmp 35), type := 26, pos := "law.go:78", after := #[{ on := 4, ground := Ground.data }, { on := 5, ground := Ground.chain }, { on := 0, ground := Ground.phase }, { on := 1, ground := Ground.phase }, { on := 2, ground := Ground.phase }, { on := 3, ground := Ground.phase }, { on := 4, ground := Ground.phase }, { on := 5, ground := Ground.phase }], guard := none }) (v := ?tkv2007) rfl (by kernel_rfl) (by kernel_rfl) (by kernel_rfl) (fun _ _ _ h => h) (Or.inl ⟨by rfl, ?tky2007⟩) hH2005 ?tkr2007
      case tky2007 => (intro w' hSw; clear hSw; go_simp; try with_reducible rfl)
      try simp only [Act.put, List.setIfInBounds_toArray, List.set_cons_zero, List.set_cons_succ]
      refine wpAnyH_done (by kernel_rfl) ?_ _
      refine NoPanic.normal ?_
      go_wp2_with fail
      go_meet
      exact ⟨g2004, gd2005, rfl, rfl, SS2005⟩
    case rest =>
      obtain ⟨g, ga, rfl, rfl, S3⟩ := hcut
      obtain ⟨⟨y0, y1, y2, y3⟩, _⟩ := HFX.out wc S3.out.b
      have hwn : IntKind.i64.wrap ((kk : Int) + (P : Int)) = (kk : Int) + (P : Int) := by rw [IntKind.wrap_i64]; have := HN80.out; omega
      have NEW := newI (kk + P) 1 wc (by have := HK.out; have := HP.out; omega) (by omega)
      rw [show ((kk + P : Nat) : Int) = (kk : Int) + (P : Int) from by omega] at NEW
      have HNW := Lib.hid NEW
      clear NEW
      go_wp2_with fail
      refine HNW.out.mono ?_
      rintro e w5 ⟨gm, rfl, hm5, hb5⟩
      have S5 : Hid (Sep3 (matO gm (kk + P) 1 (matR s kk P 1 0)) (decO ga s kk P Z (matR s kk P Z P) 0) (headO s kk P Z img g) w2 w5) := Lib.hid (S3.out.rot.rot.create (A' := matO gm (kk + P) 1 (matR s kk P 1 0)) (keeps_dec _ _ _ _ _ _ _) (keeps_head _ _ _ _ _ _) hb5.out hm5.out)
      clear HNW hm5 hb5 S3 y0 y1 y2 y3 hwn
      obtain ⟨⟨y0, y1, y2, y3⟩, _⟩ := HFX.out w5 S5.out.b
      go_wp2_with fail
      refine (rows_any s kk P Z w5 HS.out HK.out HP.out HZZ.out).mono ?_
      rintro e w6 ⟨gA, gs, hh, rfl, hvr, hown, hb6⟩
      have S6 : Hid (Sep3 (matO gm (kk + P) 1 (matR s kk P 1 0)) (decO ga s kk P Z (matR s kk P Z P) 0) (pairO (headO s kk P Z img g) (rowsO gA gs hh s kk P)) w2 w6) := Lib.hid (S5.out.create4 (keeps_mat _ _ _ _) (keeps_dec _ _ _ _ _ _ _) (keeps_head _ _ _ _ _ _) hb6.out (rows_obj hvr.out hown.out))
      clear hvr hown hb6 S5 y0 y1 y2 y3
      have hpi : (P : Int) ≤ 16 := by have := HP.out; omega
      go_wp2_with fail
      go_loopw [45] (fun i wr => ∃ k : Nat, k ≤ P ∧ i = .int .i64 k ∧ Hid (Sep3 (matO gm (kk + P) 1 (matR s kk P 1 k)) (decO ga s kk P Z (matR s kk P Z P) 0) (pairO (headO s kk P Z img g) (rowsO gA gs hh s kk P)) w2 wr)) (fun i _ => P - (intOf i).toNat)
      case atStart => exact ⟨0, by omega, rfl, S6⟩
      case round =>
        obtain ⟨k, hk, rfl, SR⟩ := hrel
        clear S6
        by_cases hlt : k < P
        · have hki : (k : Int) < (P : Int) := by omega
          obtain ⟨FR, hro⟩ := SR.out.look4
          obtain ⟨_, _, _, _, hcell, hvk⟩ := hro k hlt
          have bal : Below wr.heap.size wr (wr.alloc (.cells #[.int .u8 0] 5)) := (Below.refl _ _).alloc (Nat.le_refl _) _
          have SVA := Lib.hid (SR.out.below (keeps_mat _ _ _ _) (keeps_dec _ _ _ _ _ _ _) (keeps_pair (keeps_head _ _ _ _ _ _) (keeps_rows _ _ _ _ _ _)) bal)
          have HVA := Lib.hid (hvk.keep (bal.block _ hvk.lt.1) (bal.block _ hvk.lt.2))
          have HR1 := Lib.hid (one_row wr)
          clear hro hvk bal SR
          go_wp2_with fail
          generalize (wr.alloc (.cells #[.int .u8 0] 5)) = wva at *
          clear hcell
          obtain ⟨FM, hm, _, next⟩ := SVA.out.first (keeps_dec _ _ _ _ _ _ _) (keeps_pair (keeps_head _ _ _ _ _ _) (keeps_rows _ _ _ _ _ _))
          have HAD := Lib.hid (addI (c0 := 1) hm (matR_got HN80.out k (by omega)).inv HVA.out HR1.out rfl (HDT.out wva SVA.out.b))
          have NX := Lib.hid next
          clear hm next SVA HVA HR1
          refine HAD.out.mono ?_
          rintro e wx ⟨rfl, hmx, hfx⟩
          have SX : Hid (Sep3 (matO gm (kk + P) 1 (matR s kk P 1 (k + 1))) (decO ga s kk P Z (matR s kk P Z P) 0) (pairO (headO s kk P Z img g) (rowsO gA gs hh s kk P)) w2 wx) := Lib.hid (NX.out wx (matO gm (kk + P) 1 (matR s kk P 1 (k + 1))) hmx.out hfx.out)
          clear HAD NX hmx hfx
          go_wp2_with fail
          go_roundw
          case rel => exact ⟨k + 1, by omega, by go_num, SX⟩
          case measure => simp [intOf]; omega
        · obtain rfl : P = k := by omega
          clear hlt
          obtain ⟨w9, rfl⟩ : ∃ x : World, x = wr := ⟨_, rfl⟩
          have S9 := Lib.hid SR.out.drop
          have HB9 := Lib.hid S9.out.b
          have OW0 := Lib.hid (own_lit (w := w9) (base := w9.heap.size) (g := w9.heap.size) (n := 0) (e := 22) #[] rfl (Nat.le_refl _) rfl (by unfold maxLen; omega))
          have HBA : Hid (Below w9.heap.size w9 (w9.alloc (.cells #[] 22))) := Lib.hid ((Below.refl _ _).alloc (Nat.le_refl _) _)
          have HRU : Hid (Row (w9.alloc (.cells #[] 22)) w.heap.size U m (uv (first us m))) := Lib.hid (first_row (HUW.out _ (HB9.out.trans (HBA.out.mono HB9.out.size))))
          obtain ⟨iu, hui, huz, hus, hub⟩ := info_parts Tryz.info22
          clear SR
          go_upto_region 12 with (first
            | (at_builtin; refine wpList_app rfl (.tmp 54) (.tmp 55) 36 rfl w9.heap.size 22 iu (.int .u32 0) 4 Tryz.underlying36 hui huz hus hub rfl _ 0 [] rfl OW0.out w.heap.size U m cu (uv (first us m)) rfl HRU.out (uv_one _) (by unfold maxLen; omega) (by omega) HBA.out.size ?_; intro v5 w5 hown5 hg5 hat5; rw [Nat.zero_add, List.nil_append] at hown5; have O5 := Lib.hid hown5; have B5 := Lib.hid (below_app HBA.out HBA.out.size OW0.out (Nat.le_refl _) hg5); clear hown5 hg5 hat5))
          obtain ⟨⟨y0, y1, y2, y3⟩, _⟩ := HFX.out w5 (HB9.out.trans (B5.out.mono HB9.out.size))
          have hk64 : (kk : Int) ≤ 64 := by have := HK.out; omega
          have hk1 : 1 ≤ (kk : Int) := by have := HK.out; omega
          have O6 : Hid (w5.ownsRow w9.heap.size 22 1 v5 (first us m ++ exN rest kk 0).length (uv (first us m ++ exN rest kk 0))) := Lib.hid (by
            have e : exN rest kk 0 = [] := by cases rest <;> simp [exN]
            rw [e, List.append_nil, first_len]
            exact O5.out)
          clear OW0 HBA HRU O5
          go_wp2_with fail
          clear y0 y1 y2 y3
          go_loopw [14, 59] (fun v i wr => ∃ k : Nat, k ≤ kk ∧ i = .int .i64 k ∧ Hid (wr.ownsRow w9.heap.size 22 1 v (first us m ++ exN rest kk k).length (uv (first us m ++ exN rest kk k))) ∧ Hid (Below w9.heap.size w9 wr)) (fun _ i _ => kk - (intOf i).toNat)
          case atStart => exact ⟨0, by omega, rfl, O6, B5⟩
          case round =>
            obtain ⟨k, hk, rfl, OR, BR⟩ := hrel
            clear O6 B5
            by_cases hlt : k < kk
            · have hki : (k : Int) < (kk : Int) := by omega
              cases rest with
              | false =>
                go_wp2_with fail
                go_roundw
                case rel => exact ⟨k + 1, by omega, by go_num, OR, BR⟩
                case measure => simp [intOf]; omega
              | true =>
                obtain ⟨q, hq⟩ : ∃ q : Nat, kk - 1 - k = q := ⟨_, rfl⟩
                have hqi : (kk : Int) - 1 - (k : Int) = (q : Int) := by omega
                have hw1 : IntKind.i64.wrap ((kk : Int) - 1) = (kk : Int) - 1 := by rw [IntKind.wrap_i64]; omega
                have hw2 : IntKind.i64.wrap ((kk : Int) - 1 - (k : Int)) = (q : Int) := by rw [IntKind.wrap_i64]; omega
                have hw3 : IntKind.u32.wrap (q : Int) = (q : Int) := by
                  have e : IntKind.u32.wrap (q : Int) = (q : Int) % 4294967296 := by simp [IntKind.wrap, IntKind.bits, IntKind.signed]
                  rw [e]; omega
                obtain ⟨⟨y0, y1, y2, y3⟩, _⟩ := HFX.out wr (HB9.out.trans (BR.out.mono HB9.out.size))
                obtain ⟨Av, cv, rfl, _⟩ := own_slice OR.out
                have hll : (first us m ++ exN true kk k).length ≤ 164 := by rw [List.length_append, first_len, exN_len]; simp; omega
                have hex : first us m ++ exN true kk (k + 1) = (first us m ++ exN true kk k) ++ [q] := by rw [exN_snoc, hq, List.append_assoc]
                have HEX := Lib.hid hex
                generalize first us m ++ exN true kk k = ls at *
                have bal : Below wr.heap.size wr (wr.alloc (.cells #[.int .u32 (q : Int)] 22)) := (Below.refl _ _).alloc (Nat.le_refl _) _
                have HBL := Lib.hid (BR.out.trans (bal.mono BR.out.size))
                have HOB := Lib.hid (own_below OR.out bal)
                have HRN : Hid (Row (wr.alloc (.cells #[.int .u32 (q : Int)] 22)) (wr.heap.size + 1) (some ⟨wr.heap.size, 0, none⟩) 1 (uv [q])) := Lib.hid (row_new wr #[.int .u32 (q : Int)] _ _)
                clear bal hex hq
                go_wp2_with (first
                  | (at_builtin; refine wpList_app rfl (.tmp 63) (.tmp 70) 36 rfl w9.heap.size 22 iu (.int .u32 0) 4 Tryz.underlying36 hui huz hus hub rfl _ ls.length _ rfl HOB.out _ _ 1 1 (uv [q]) rfl HRN.out (uv_one _) (by unfold maxLen; omega) (by omega) HBL.out.size ?_; intro v6 w6' hown6 hg6 hat6; have B6 := Lib.hid (below_app HBL.out HBL.out.size HOB.out (Nat.le_refl _) hg6)))
                have O7 : Hid (w6'.ownsRow w9.heap.size 22 1 v6 (first us m ++ exN true kk (k + 1)).length (uv (first us m ++ exN true kk (k + 1)))) := Lib.hid (by rw [HEX.out, List.length_append, uv_append]; exact hown6)
                clear hown6 hg6 hat6
                go_wp2_with fail
                go_roundw
                case rel => exact ⟨k + 1, by omega, by go_num, O7, B6⟩
                case measure => simp [intOf]; omega
            · obtain rfl : kk = k := by omega
              clear hlt
              obtain ⟨Aa, ca, rfl, hca, hcm, _⟩ := own_slice OR.out
              have HALL : Hid (rest = true → ∀ i, i < kk → ∃ j, j < (first us m ++ exN rest kk kk).length ∧ (first us m ++ exN rest kk kk).getD j 0 = i) := Lib.hid fun hr i hi => by subst hr; exact all_has hi
              have HAL4 : Hid (∀ i, (first us m ++ exN rest kk kk).getD i 0 < 4294967296) := Lib.hid fun i => all_lt (fun q hq => by obtain ⟨_, _, _, _, _, h⟩ := HU.out q hq; exact h) HK.out.2 i
              have HLEN : Hid ((first us m ++ exN rest kk kk).length ≤ 164) := Lib.hid (by rw [List.length_append, first_len, exN_len]; have := HK.out; split <;> omega)
              have SB0 := Lib.hid (S9.out.create4 (keeps_mat _ _ _ _) (keeps_dec _ _ _ _ _ _ _) (keeps_head _ _ _ _ _ _) BR.out (all_own OR.out))
              obtain ⟨wb, rfl⟩ : ∃ x : World, x = wr := ⟨_, rfl⟩
              obtain ⟨al, hal⟩ : ∃ al, first us m ++ exN rest kk kk = al := ⟨_, rfl⟩
              rw [hal] at SB0 HALL HAL4 HLEN ⊢
              have SB : Hid (Sep3 (matO gm (kk + P) 1 (matR s kk P 1 P)) (decO ga s kk P Z (matR s kk P Z P) 0) (pairO (headO s kk P Z img g) (allO Aa (uv al))) w2 wb) := SB0
              clear hal SB0 OR BR S9 HB9
              obtain ⟨f, hfd⟩ : ∃ f : Nat → Nat, f = fun i => al.getD i 0 := ⟨_, rfl⟩
              have HFL : Hid (∀ i, f i < 4294967296) := Lib.hid fun i => by rw [hfd]; exact HAL4.out i
              have HAG : Hid (∀ i, i < al.length → (uv al)[i]? = some (.int .u32 ((f i : Nat) : Int))) := Lib.hid fun i hi => by rw [hfd]; exact uv_get hi
              have HHS : Hid (rest = true → ∀ i, i < kk → ∃ j, j < al.length ∧ f j = i) := Lib.hid fun hr i hi => by rw [hfd]; exact HALL.out hr i hi
              have S18 : Hid (Sep3 (matO gm (kk + P) 1 (matG s kk P f 0)) (decO ga s kk P Z (matF s kk P Z img f 0) (tkF s kk P Z img f 0)) (pairO (headO s kk P Z img g) (allO Aa (uv al))) w2 wb) := Lib.hid (by
                rw [tkF_zero f HN80.out]
                exact SB.out)
              have hlal : (al.length : Int) ≤ 164 := by have := HLEN.out; omega
              clear hfd SB HAL4 HALL
              go_wp2_with fail
              go_loopw [75] (fun i wr => ∃ j : Nat, j ≤ al.length ∧ i = .int .i64 j ∧ Hid (Sep3 (matO gm (kk + P) 1 (matG s kk P f j)) (decO ga s kk P Z (matF s kk P Z img f j) (tkF s kk P Z img f j)) (pairO (headO s kk P Z img g) (allO Aa (uv al))) w2 wr)) (fun i _ => al.length - (intOf i).toNat)
              case atStart => exact ⟨0, by omega, rfl, S18⟩
              case round =>
                obtain ⟨i, hi, rfl, SR⟩ := hrel
                clear S18
                by_cases hlt : i < al.length
                · have hii : (i : Int) < (al.length : Int) := by omega
                  have HFI := Lib.hid (HFL.out i)
                  obtain ⟨FA, hao⟩ := SR.out.look4
                  obtain ⟨bg, bo, rfl, _, _, hce⟩ := hao i _ (HAG.out i hlt)
                  obtain ⟨⟨y0, y1, y2, y3⟩, _⟩ := HFX.out wr SR.out.b
                  clear hao
                  go_wp2_with fail
                  refine (row_any s (f i) kk P Z wr HS.out HFI.out HK.out HP.out HZZ.out).mono ?_
                  rintro e wv ⟨gv, hv, rfl, _, _, hvec, hbv⟩
                  have SV := Lib.hid (SR.out.below (keeps_mat _ _ _ _) (keeps_dec _ _ _ _ _ _ _) (keeps_pair (keeps_head _ _ _ _ _ _) (keeps_all _ _)) hbv.out)
                  have bal : Below wv.heap.size wv (wv.alloc (.cells #[.int .u8 0] 5)) := (Below.refl _ _).alloc (Nat.le_refl _) _
                  have SVA := Lib.hid (SV.out.below (keeps_mat _ _ _ _) (keeps_dec _ _ _ _ _ _ _) (keeps_pair (keeps_head _ _ _ _ _ _) (keeps_all _ _)) bal)
                  have HVA := Lib.hid (hvec.out.keep (bal.block _ hvec.out.lt.1) (bal.block _ hvec.out.lt.2))
                  have HR1 := Lib.hid (one_row wv)
                  clear hvec hbv bal SR y0 y1 y2 y3 hce
                  go_wp2_with fail
                  generalize (wv.alloc (.cells #[.int .u8 0] 5)) = wva at *
                  obtain ⟨FM, hm, _, next⟩ := SVA.out.first (keeps_dec _ _ _ _ _ _ _) (keeps_pair (keeps_head _ _ _ _ _ _) (keeps_all _ _))
                  obtain ⟨ba, hba⟩ : ∃ ba, (addMx (kk + P) (matF s kk P Z img f i) (spX s kk P (f i)) (symX s kk P Z img (f i))).2 = ba := ⟨_, rfl⟩
                  have HTA : Hid (addMx (kk + P) (matF s kk P Z img f i) (spX s kk P (f i)) (symX s kk P Z img (f i)) = (matF s kk P Z img f (i + 1), ba)) := Lib.hid (by rw [← hba]; rfl)
                  have HTG : Hid (addMx (kk + P) (matG s kk P f i) (spX s kk P (f i)) [0] = (matG s kk P f (i + 1), ba)) := Lib.hid (by rw [← hba, ← matG_new f HK.out.1 HN80.out i _ [0]]; rfl)
                  have HKA : Hid (tkF s kk P Z img f i + (if ba then 1 else 0) = tkF s kk P Z img f (i + 1)) := Lib.hid (by rw [← hba]; exact tkF_step f HK.out.1 HN80.out i)
                  have HS1 : Hid (decide ((redM (matF s kk P Z img f i) (spX s kk P (f i)) [] (kk + P)).1 ≠ 0) = ba) := Lib.hid (by rw [← hba]; exact says_add (matF_got f HK.out.1 HN80.out i).inv _ _)
                  have HS2 : Hid (decide ((redM (matF s kk P Z img f (i + 1)) (spX s kk P (f i)) [] (kk + P)).1 ≠ 0) = false) := Lib.hid (says_again f HK.out.1 HN80.out i)
                  obtain ⟨rk, hrk⟩ : ∃ rk, rankM (matF s kk P Z img f (i + 1)) = rk := ⟨_, rfl⟩
                  have HRK := Lib.hid hrk
                  have HRG : Hid (rankM (matG s kk P f (i + 1)) = rk) := Lib.hid (by rw [matG_rank f HK.out.1 HN80.out, hrk])
                  have hrl : rk ≤ 80 := by have := rank_le (matF_got (s := s) (P := P) (Z := Z) (img := img) f HK.out.1 HN80.out (i + 1)).inv; have := HN80.out; omega
                  have HAD := Lib.hid (addI (c0 := 1) hm (matG_got f HN80.out i).inv HVA.out HR1.out rfl (HDT.out wva SVA.out.b))
                  rw [HTG.out] at HAD
                  have NX := Lib.hid next
                  clear hm next hba hrk SV SVA HVA HR1
                  refine HAD.out.mono ?_
                  rintro e wx ⟨rfl, hmx, hfx⟩
                  have SX : Hid (Sep3 (matO gm (kk + P) 1 (matG s kk P f (i + 1))) (decO ga s kk P Z (matF s kk P Z img f i) (tkF s kk P Z img f i)) (pairO (headO s kk P Z img g) (allO (some ⟨bg, bo, none⟩) (uv al))) w2 wx) := Lib.hid (NX.out wx (matO gm (kk + P) 1 (matG s kk P f (i + 1))) hmx.out hfx.out)
                  have SRD : Hid (Sep3 (matO gm (kk + P) 1 (matG s kk P f (i + 1))) (decO ga s kk P Z (matF s kk P Z img f i) (tkF s kk P Z img f i)) (pairO (headO s kk P Z img g) (allO (some ⟨bg, bo, none⟩) (uv al))) w2 wx.drew) := Lib.hid (SX.out.below (keeps_mat _ _ _ _) (keeps_dec _ _ _ _ _ _ _) (keeps_pair (keeps_head _ _ _ _ _ _) (keeps_all _ _)) (Below.refl _ _).drew)
                  have hwa : IntKind.i64.wrap ((kk : Int) + (P : Int)) = (kk : Int) + (P : Int) := by rw [IntKind.wrap_i64]; have := HN80.out; omega
                  have hwb : IntKind.i64.wrap ((kk : Int) + (P : Int) - (rk : Int)) = (kk : Int) + (P : Int) - (rk : Int) := by rw [IntKind.wrap_i64]; have := HN80.out; omega
                  have hb1 : (ba != ba) = false := by simp
                  have hb2 : (ba == ba) = true := by simp
                  have hn1 : (((kk : Int) + (P : Int) - (rk : Int)) != ((kk : Int) + (P : Int) - (rk : Int))) = false := by simp
                  clear HAD NX hmx hfx SX HTG
                  go_upto_region 22 with fail
                  refine wp_region_noPanic ?_
                  refine wp_region_held_drew (S := (fun W => Below w2.heap.size w2 W)) (by kernel_rfl) (SRD.out.b) (fun hH0 => ?_)
                  have hH0 : Below w2.heap.size w2 wx.drew := hH0
                  generalize wx.drew = wd5000 at *
                  refine wpAnyH_take (i := 0) (oi := { dst := some 85, op := Op.move (Operand.tmp 10), type := 26, pos := "law.go:91", after := #[], guard := none }) (v := ?tkv5001) rfl (by kernel_rfl) (by kernel_rfl) (by kernel_rfl) (fun _ _ _ h => h) (Or.inl ⟨by rfl, ?tky5001⟩) hH0 ?tkr5001
                  case tky5001 => (intro w' hSw; clear hSw; go_simp; try with_reducible rfl)
                  try simp only [Act.put, List.setIfInBounds_toArray, List.set_cons_zero, List.set_cons_succ]
                  refine wpAnyH_take (i := 1) (oi := { dst := some 86, op := Op.move (Operand.tmp 17), type := 22, pos := "law.go:91", after := #[], guard := none }) (v := ?tkv5002) rfl (by kernel_rfl) (by kernel_rfl) (by kernel_rfl) (fun _ _ _ h => h) (Or.inl ⟨by rfl, ?tky5002⟩) hH0 ?tkr5002
                  case tky5002 => (intro w' hSw; clear hSw; go_simp; try with_reducible rfl)
                  try simp only [Act.put, List.setIfInBounds_toArray, List.set_cons_zero, List.set_cons_succ]
                  refine wpAnyH_take (i := 3) (oi := { dst := some 88, op := Op.move (Operand.tmp 18), type := 4, pos := "law.go:91", after := #[], guard := none }) (v := ?tkv5003) rfl (by kernel_rfl) (by kernel_rfl) (by kernel_rfl) (fun _ _ _ h => h) (Or.inl ⟨by rfl, ?tky5003⟩) hH0 ?tkr5003
                  case tky5003 => (intro w' hSw; clear hSw; go_simp; try with_reducible rfl)
                  try simp only [Act.put, List.setIfInBounds_toArray, List.set_cons_zero, List.set_cons_succ]
                  refine wpAnyH_ready (rs := [2]) (by kernel_rfl) (by simp) ?_
                  refine AllReadyH.cons (o := { dst := some 87, op := Op.call { callee := Callee.value (Operand.func 9), args := #[Operand.tmp 85, Operand.tmp 86], argTypes := #[26, 22] }, type := 4, pos := "law.go:91", after := #[{ on := 0, ground := Ground.data }, { on := 1, ground := Ground.data }], guard := none }) rfl (fun K hK => ?_) AllReadyH.nil
                  go_simp
                  obtain ⟨FD5004, hd5004, _, _⟩ := SRD.out.swap.first (keeps_mat _ _ _ _) (keeps_pair (keeps_head _ _ _ _ _ _) (keeps_all _ _))
                  have hsy5004 := says_any FD5004 ga s kk P Z _ (f i) _ wd5000 hd5004 HS.out HFI.out HK.out HP.out HZZ.out (HDT.out wd5000 SRD.out.b)
                  rw [HS1.out] at hsy5004
                  refine hsy5004.mono ?_
                  clear hsy5004 hd5004
                  rintro e' wn5004 ⟨rfl, hb5004⟩
                  have SS5004 : Hid (Sep3 (matO gm (kk + P) 1 (matG s kk P f (i + 1))) (decO ga s kk P Z (matF s kk P Z img f i) (tkF s kk P Z img f i)) (pairO (headO s kk P Z img g) (allO (some ⟨bg, bo, none⟩) (uv al))) w2 wn5004) := Lib.hid (SRD.out.below (keeps_mat _ _ _ _) (keeps_dec _ _ _ _ _ _ _) (keeps_pair (keeps_head _ _ _ _ _ _) (keeps_all _ _)) hb5004.out)
                  clear hb5004
                  go_simp
                  have hS5004 : Below w2.heap.size w2 wn5004 := SS5004.out.b
                  refine hK.out _ _ hS5004 (fun hH5004 => ?_)
                  have hH5004 : Below w2.heap.size w2 wn5004 := hH5004
                  clear hK K hS5004
                  try simp only [Act.put, List.setIfInBounds_toArray, List.set_cons_zero, List.set_cons_succ]
                  refine wpAnyH_take (i := 4) (oi := { dst := some 89, op := Op.binOp BinOp.neq 4 (Operand.tmp 87) (Operand.tmp 88) 4, type := 4, pos := "law.go:91", after := #[{ on := 2, ground := Ground.data }, { on := 3, ground := Ground.data }], guard := none }) (v := ?tkv5005) rfl (by kernel_rfl) (by kernel_rfl) (by kernel_rfl) (fun _ _ _ h => h) (Or.inl ⟨by rfl, ?tky5005⟩) hH5004 ?tkr5005
                  case tky5005 => (intro w' hSw; clear hSw; go_simp; try with_reducible rfl)
                  try simp only [Act.put, List.setIfInBounds_toArray, List.set_cons_zero, List.set_cons_succ]
                  refine wpAnyH_take (i := 5) (oi := { dst := some 90, op := Op.move (Operand.tmp 89), type := 4, pos := "law.go:91", after := #[{ on := 4, ground := Ground.data }, { on := 2, ground := Ground.chain }], guard := none }) (v := ?tkv5006) rfl (by kernel_rfl) (by kernel_rfl) (by kernel_rfl) (fun _ _ _ h => h) (Or.inl ⟨by rfl, ?tky5006⟩) hH5004 ?tkr5006
                  case tky5006 => (intro w' hSw; clear hSw; go_simp; try with_reducible rfl)
                  try simp only [Act.put, List.setIfInBounds_toArray, List.set_cons_zero, List.set_cons_succ]
                  refine wpAnyH_take (i := 6) (oi := { dst := some 91, op := Op.move (Operand.tmp 10), type := 26, pos := "law.go:91", after := #[{ on := 5, ground := Ground.guard }], guard := some (5, false) }) (v := ?tkv5007) rfl (by kernel_rfl) (by kernel_rfl) (by kernel_rfl) (fun _ _ _ h => h) (Or.inl ⟨by rfl, ?tky5007⟩) hH5004 ?tkr5007
                  case tky5007 => (intro w' hSw; clear hSw; go_simp; try with_reducible rfl)
                  try simp only [Act.put, List.setIfInBounds_toArray, List.set_cons_zero, List.set_cons_succ]
                  refine wpAnyH_take (i := 7) (oi := { dst := some 92, op := Op.move (Operand.tmp 17), type := 22, pos := "law.go:91", after := #[{ on := 5, ground := Ground.guard }], guard := some (5, false) }) (v := ?tkv5008) rfl (by kernel_rfl) (by kernel_rfl) (by kernel_rfl) (fun _ _ _ h => h) (Or.inl ⟨by rfl, ?tky5008⟩) hH5004 ?tkr5008
                  case tky5008 => (intro w' hSw; clear hSw; go_simp; try with_reducible rfl)
                  try simp only [Act.put, List.setIfInBounds_toArray, List.set_cons_zero, List.set_cons_succ]
                  refine wpAnyH_take (i := 8) (oi := { dst := some 93, op := Op.move (Operand.tmp 9), type := 39, pos := "law.go:91", after := #[{ on := 5, ground := Ground.guard }], guard := some (5, false) }) (v := ?tkv5009) rfl (by kernel_rfl) (by kernel_rfl) (by kernel_rfl) (fun _ _ _ h => h) (Or.inl ⟨by rfl, ?tky5009⟩) hH5004 ?tkr5009
                  case tky5009 => (intro w' hSw; clear hSw; go_simp; try with_reducible rfl)
                  try simp only [Act.put, List.setIfInBounds_toArray, List.set_cons_zero, List.set_cons_succ]
                  refine wpAnyH_take (i := 9) (oi := { dst := some 94, op := Op.move (Operand.tmp 17), type := 22, pos := "law.go:91", after := #[{ on := 5, ground := Ground.guard }], guard := some (5, false) }) (v := ?tkv5010) rfl (by kernel_rfl) (by kernel_rfl) (by kernel_rfl) (fun _ _ _ h => h) (Or.inl ⟨by rfl, ?tky5010⟩) hH5004 ?tkr5010
                  case tky5010 => (intro w' hSw; clear hSw; go_simp; try with_reducible rfl)
                  try simp only [Act.put, List.setIfInBounds_toArray, List.set_cons_zero, List.set_cons_succ]
                  refine wpAnyH_take (i := 12) (oi := { dst := some 97, op := Op.move (Operand.tmp 18), type := 4, pos := "law.go:91", after := #[{ on := 5, ground := Ground.guard }], guard := some (5, false) }) (v := ?tkv5011) rfl (by kernel_rfl) (by kernel_rfl) (by kernel_rfl) (fun _ _ _ h => h) (Or.inl ⟨by rfl, ?tky5011⟩) hH5004 ?tkr5011
                  case tky5011 => (intro w' hSw; clear hSw; go_simp; try with_reducible rfl)
                  try simp only [Act.put, List.setIfInBounds_toArray, List.set_cons_zero, List.set_cons_succ]
                  refine wpAnyH_ready (rs := [10]) (by kernel_rfl) (by simp) ?_
                  refine AllReadyH.cons (o := { dst := some 95, op := Op.call { callee := Callee.value (Operand.func 21), args := #[Operand.tmp 93, Operand.tmp 94], argTypes := #[39, 22] }, type := 23, pos := "law.go:91", after := #[{ on := 8, ground := Ground.data }, { on := 9, ground := Ground.data }, { on := 5, ground := Ground.chain }, { on := 5, ground := Ground.guard }], guard := some (5, false) }) rfl (fun K hK => ?_) AllReadyH.nil
                  go_simp
                  obtain ⟨FH5012, hh5012, _, next5012⟩ := SS5004.out.ex.first (keeps_dec _ _ _ _ _ _ _) (keeps_pair (keeps_mat _ _ _ _) (keeps_all _ _))
                  refine (symH (id := f i) hh5012 HS.out HFI.out HK.out HP.out HZZ.out HCN.out (HDT.out wn5004 SS5004.out.b)).mono ?_
                  rintro e' wn5012 ⟨A5012, c5012, rfl, ho5012, hh5012', hf5012⟩
                  have SS5012 : Hid (Sep3 (matO gm (kk + P) 1 (matG s kk P f (i + 1))) (decO ga s kk P Z (matF s kk P Z img f i) (tkF s kk P Z img f i)) (pairO (headO s kk P Z img g) (allO (some ⟨bg, bo, none⟩) (uv al))) w2 wn5012) := Lib.hid (next5012 wn5012 (headO s kk P Z img g) hh5012'.out hf5012.out).ex
                  have HO5012 := Lib.hid ho5012.out
                  clear ho5012 hh5012 hh5012' hf5012 next5012
                  go_simp
                  have hS5012 : Below w2.heap.size w2 wn5012 := SS5012.out.b
                  refine hK.out _ _ hS5012 (fun hH5012 => ?_)
                  have hH5012 : Below w2.heap.size w2 wn5012 := hH5012
                  clear hK K hS5012
                  try simp only [Act.put, List.setIfInBounds_toArray, List.set_cons_zero, List.set_cons_succ]
                  refine wpAnyH_ready (rs := [11]) (by kernel_rfl) (by simp) ?_
                  refine AllReadyH.cons (o := { dst := some 96, op := Op.call { callee := Callee.value (Operand.func 10), args := #[Operand.tmp 91, Operand.tmp 92, Operand.tmp 95], argTypes := #[26, 22, 23] }, type := 4, pos := "law.go:91", after := #[{ on := 6, ground := Ground.data }, { on := 7, ground := Ground.data }, { on := 10, ground := Ground.data }, { on := 10, ground := Ground.chain }, { on := 5, ground := Ground.guard }], guard := some (5, false) }) rfl (fun K hK => ?_) AllReadyH.nil
                  go_simp
                  obtain ⟨FD5013, hd5013, _, next5013⟩ := SS5012.out.swap.first (keeps_mat _ _ _ _) (keeps_pair (keeps_head _ _ _ _ _ _) (keeps_all _ _))
                  refine (take_any FD5013 ga s kk P Z (tkF s kk P Z img f i) (f i) c5012 A5012 (symX s kk P Z img (f i)) _ wn5012 hd5013 (matF_got f HK.out.1 HN80.out i).inv HS.out HFI.out HK.out HP.out HZZ.out (symX_length HK.out.1 HN80.out) (Row.of_own HO5012.out) (HDT.out wn5012 SS5012.out.b) (Nat.le_trans (tkF_le f HK.out.1 HN80.out i) (by omega))).mono ?_
                  rw [HTA.out]
                  rintro e' wn5013 ⟨rfl, hd5013', hf5013⟩
                  have hdd5013 : IsDec wn5013 (fun b => FD5013 b ∨ (wn5012.heap.size ≤ b ∧ b < wn5013.heap.size)) ga s kk P Z (matF s kk P Z img f (i + 1)) (tkF s kk P Z img f i + if ba then 1 else 0) := hd5013'.out
                  rw [HKA.out] at hdd5013
                  have SS5013 : Hid (Sep3 (matO gm (kk + P) 1 (matG s kk P f (i + 1))) (decO ga s kk P Z (matF s kk P Z img f (i + 1)) (tkF s kk P Z img f (i + 1))) (pairO (headO s kk P Z img g) (allO (some ⟨bg, bo, none⟩) (uv al))) w2 wn5013) := Lib.hid (next5013 wn5013 (decO ga s kk P Z (matF s kk P Z img f (i + 1)) (tkF s kk P Z img f (i + 1))) hdd5013 hf5013.out).swap
                  clear hdd5013
                  clear hd5013 hd5013' hf5013 next5013
                  go_simp
                  have hS5013 : Below w2.heap.size w2 wn5013 := SS5013.out.b
                  refine hK.out _ _ hS5013 (fun hH5013 => ?_)
                  have hH5013 : Below w2.heap.size w2 wn5013 := hH5013
                  clear hK K hS5013
                  try simp only [Act.put, List.setIfInBounds_toArray, List.set_cons_zero, List.set_cons_succ]
                  refine wpAnyH_take (i := 13) (oi := { dst := some 98, op := Op.binOp BinOp.neq 4 (Operand.tmp 96) (Operand.tmp 97) 4, type := 4, pos := "law.go:91", after := #[{ on := 11, ground := Ground.data }, { on := 12, ground := Ground.data }, { on := 5, ground := Ground.guard }], guard := some (5, false) }) (v := ?tkv5014) rfl (by kernel_rfl) (by kernel_rfl) (by kernel_rfl) (fun _ _ _ h => h) (Or.inl ⟨by rfl, ?tky5014⟩) hH5013 ?tkr5014
                  case tky5014 => (intro w' hSw; clear hSw; go_simp; try with_reducible rfl)
                  try simp only [Act.put, List.setIfInBounds_toArray, List.set_cons_zero, List.set_cons_succ]
                  refine wpAnyH_take (i := 14) (oi := { dst := some 99, op := Op.pick (Operand.tmp 90) (Operand.const (Value.bool true)) (Operand.tmp 98), type := 4, pos := "law.go:91", after := #[{ on := 5, ground := Ground.data }, { on := 13, ground := Ground.data }], guard := none }) (v := ?tkv5015) rfl (by kernel_rfl) (by kernel_rfl) (by kernel_rfl) (fun _ _ _ h => h) (Or.inl ⟨by rfl, ?tky5015⟩) hH5013 ?tkr5015
                  case tky5015 => (intro w' hSw; clear hSw; go_simp; try with_reducible rfl)
                  try simp only [Act.put, List.setIfInBounds_toArray, List.set_cons_zero, List.set_cons_succ]
                  refine wpAnyH_take (i := 15) (oi := { dst := some 100, op := Op.move (Operand.tmp 99), type := 4, pos := "law.go:91", after := #[{ on := 14, ground := Ground.data }, { on := 11, ground := Ground.chain }], guard := none }) (v := ?tkv5016) rfl (by kernel_rfl) (by kernel_rfl) (by kernel_rfl) (fun _ _ _ h => h) (Or.inl ⟨by rfl, ?tky5016⟩) hH5013 ?tkr5016
                  case tky5016 => (intro w' hSw; clear hSw; go_simp; try with_reducible rfl)
                  try simp only [Act.put, List.setIfInBounds_toArray, List.set_cons_zero, List.set_cons_succ]
                  refine wpAnyH_take (i := 16) (oi := { dst := some 101, op := Op.move (Operand.tmp 10), type := 26, pos := "law.go:91", after := #[{ on := 15, ground := Ground.guard }], guard := some (15, false) }) (v := ?tkv5017) rfl (by kernel_rfl) (by kernel_rfl) (by kernel_rfl) (fun _ _ _ h => h) (Or.inl ⟨by rfl, ?tky5017⟩) hH5013 ?tkr5017
                  case tky5017 => (intro w' hSw; clear hSw; go_simp; try with_reducible rfl)
                  try simp only [Act.put, List.setIfInBounds_toArray, List.set_cons_zero, List.set_cons_succ]
                  refine wpAnyH_take (i := 17) (oi := { dst := some 102, op := Op.move (Operand.tmp 17), type := 22, pos := "law.go:91", after := #[{ on := 15, ground := Ground.guard }], guard := some (15, false) }) (v := ?tkv5018) rfl (by kernel_rfl) (by kernel_rfl) (by kernel_rfl) (fun _ _ _ h => h) (Or.inl ⟨by rfl, ?tky5018⟩) hH5013 ?tkr5018
                  case tky5018 => (intro w' hSw; clear hSw; go_simp; try with_reducible rfl)
                  try simp only [Act.put, List.setIfInBounds_toArray, List.set_cons_zero, List.set_cons_succ]
                  refine wpAnyH_ready (rs := [18]) (by kernel_rfl) (by simp) ?_
                  refine AllReadyH.cons (o := { dst := some 103, op := Op.call { callee := Callee.value (Operand.func 9), args := #[Operand.tmp 101, Operand.tmp 102], argTypes := #[26, 22] }, type := 4, pos := "law.go:91", after := #[{ on := 16, ground := Ground.data }, { on := 17, ground := Ground.data }, { on := 15, ground := Ground.chain }, { on := 15, ground := Ground.guard }], guard := some (15, false) }) rfl (fun K hK => ?_) AllReadyH.nil
                  go_simp
                  obtain ⟨FD5019, hd5019, _, _⟩ := SS5013.out.swap.first (keeps_mat _ _ _ _) (keeps_pair (keeps_head _ _ _ _ _ _) (keeps_all _ _))
                  have hsy5019 := says_any FD5019 ga s kk P Z _ (f i) _ wn5013 hd5019 HS.out HFI.out HK.out HP.out HZZ.out (HDT.out wn5013 SS5013.out.b)
                  rw [HS2.out] at hsy5019
                  refine hsy5019.mono ?_
                  clear hsy5019 hd5019
                  rintro e' wn5019 ⟨rfl, hb5019⟩
                  have SS5019 : Hid (Sep3 (matO gm (kk + P) 1 (matG s kk P f (i + 1))) (decO ga s kk P Z (matF s kk P Z img f (i + 1)) (tkF s kk P Z img f (i + 1))) (pairO (headO s kk P Z img g) (allO (some ⟨bg, bo, none⟩) (uv al))) w2 wn5019) := Lib.hid (SS5013.out.below (keeps_mat _ _ _ _) (keeps_dec _ _ _ _ _ _ _) (keeps_pair (keeps_head _ _ _ _ _ _) (keeps_all _ _)) hb5019.out)
                  clear hb5019
                  go_simp
                  have hS5019 : Below w2.heap.size w2 wn5019 := SS5019.out.b
                  refine hK.out _ _ hS5019 (fun hH5019 => ?_)
                  have hH5019 : Below w2.heap.size w2 wn5019 := hH5019
                  clear hK K hS5019
                  try simp only [Act.put, List.setIfInBounds_toArray, List.set_cons_zero, List.set_cons_succ]
                  refine wpAnyH_take (i := 19) (oi := { dst := some 104, op := Op.pick (Operand.tmp 100) (Operand.const (Value.bool true)) (Operand.tmp 103), type := 4, pos := "law.go:91", after := #[{ on := 15, ground := Ground.data }, { on := 18, ground := Ground.data }], guard := none }) (v := ?tkv5020) rfl (by kernel_rfl) (by kernel_rfl) (by kernel_rfl) (fun _ _ _ h => h) (Or.inl ⟨by rfl, ?tky5020⟩) hH5019 ?tkr5020
                  case tky5020 => (intro w' hSw; clear hSw; go_simp; try with_reducible rfl)
                  try simp only [Act.put, List.setIfInBounds_toArray, List.set_cons_zero, List.set_cons_succ]
                  refine wpAnyH_take (i := 20) (oi := { dst := some 105, op := Op.move (Operand.tmp 104), type := 4, pos := "law.go:91", after := #[{ on := 19, ground := Ground.data }, { on := 18, ground := Ground.chain }], guard := none }) (v := ?tkv5021) rfl (by kernel_rfl) (by kernel_rfl) (by kernel_rfl) (fun _ _ _ h => h) (Or.inl ⟨by rfl, ?tky5021⟩) hH5019 ?tkr5021
                  case tky5021 => (intro w' hSw; clear hSw; go_simp; try with_reducible rfl)
                  try simp only [Act.put, List.setIfInBounds_toArray, List.set_cons_zero, List.set_cons_succ]
                  refine wpAnyH_take (i := 21) (oi := { dst := some 106, op := Op.move (Operand.tmp 10), type := 26, pos := "law.go:91", after := #[{ on := 20, ground := Ground.guard }], guard := some (20, false) }) (v := ?tkv5022) rfl (by kernel_rfl) (by kernel_rfl) (by kernel_rfl) (fun _ _ _ h => h) (Or.inl ⟨by rfl, ?tky5022⟩) hH5019 ?tkr5022
                  case tky5022 => (intro w' hSw; clear hSw; go_simp; try with_reducible rfl)
                  try simp only [Act.put, List.setIfInBounds_toArray, List.set_cons_zero, List.set_cons_succ]
                  refine wpAnyH_take (i := 23) (oi := { dst := some 108, op := Op.fieldAddr 35 (Operand.tmp 4) 1, type := 0, pos := "law.go:91", after := #[{ on := 20, ground := Ground.guard }], guard := some (20, false) }) (v := ?tkv5023) rfl (by kernel_rfl) (by kernel_rfl) (by kernel_rfl) (fun _ _ _ h => h) (Or.inl ⟨by rfl, ?tky5023⟩) hH5019 ?tkr5023
                  case tky5023 => (intro w' hSw; clear hSw; go_simp; try with_reducible rfl)
                  try simp only [Act.put, List.setIfInBounds_toArray, List.set_cons_zero, List.set_cons_succ]
                  refine wpAnyH_take (i := 24) (oi := { dst := some 109, op := Op.load 3 (Operand.tmp 108), type := 3, pos := "law.go:91", after := #[{ on := 23, ground := Ground.data }, { on := 20, ground := Ground.guard }], guard := some (20, false) }) (v := ?tkv5024) rfl (by kernel_rfl) (by kernel_rfl) (by kernel_rfl) (fun _ _ _ h => h) (Or.inl ⟨by rfl, ?tky5024⟩) hH5019 ?tkr5024
                  case tky5024 => (intro w' hSw; have z0 := HFX.out _ hSw; clear hSw; go_simp; try with_reducible rfl)
                  try simp only [Act.put, List.setIfInBounds_toArray, List.set_cons_zero, List.set_cons_succ]
                  refine wpAnyH_take (i := 25) (oi := { dst := some 110, op := Op.fieldAddr 35 (Operand.tmp 4) 2, type := 0, pos := "law.go:91", after := #[{ on := 20, ground := Ground.guard }], guard := some (20, false) }) (v := ?tkv5025) rfl (by kernel_rfl) (by kernel_rfl) (by kernel_rfl) (fun _ _ _ h => h) (Or.inl ⟨by rfl, ?tky5025⟩) hH5019 ?tkr5025
                  case tky5025 => (intro w' hSw; clear hSw; go_simp; try with_reducible rfl)
                  try simp only [Act.put, List.setIfInBounds_toArray, List.set_cons_zero, List.set_cons_succ]
                  refine wpAnyH_take (i := 26) (oi := { dst := some 111, op := Op.load 3 (Operand.tmp 110), type := 3, pos := "law.go:91", after := #[{ on := 25, ground := Ground.data }, { on := 20, ground := Ground.guard }], guard := some (20, false) }) (v := ?tkv5026) rfl (by kernel_rfl) (by kernel_rfl) (by kernel_rfl) (fun _ _ _ h => h) (Or.inl ⟨by rfl, ?tky5026⟩) hH5019 ?tkr5026
                  case tky5026 => (intro w' hSw; have z0 := HFX.out _ hSw; clear hSw; go_simp; try with_reducible rfl)
                  try simp only [Act.put, List.setIfInBounds_toArray, List.set_cons_zero, List.set_cons_succ]
                  refine wpAnyH_take (i := 27) (oi := { dst := some 112, op := Op.binOp BinOp.add 3 (Operand.tmp 109) (Operand.tmp 111) 3, type := 3, pos := "law.go:91", after := #[{ on := 24, ground := Ground.data }, { on := 26, ground := Ground.data }, { on := 20, ground := Ground.guard }], guard := some (20, false) }) (v := ?tkv5027) rfl (by kernel_rfl) (by kernel_rfl) (by kernel_rfl) (fun _ _ _ h => h) (Or.inl ⟨by rfl, ?tky5027⟩) hH5019 ?tkr5027
                  case tky5027 => (intro w' hSw; clear hSw; go_simp; try with_reducible rfl)
                  try simp only [Act.put, List.setIfInBounds_toArray, List.set_cons_zero, List.set_cons_succ]
                  refine wpAnyH_take (i := 28) (oi := { dst := some 113, op := Op.move (Operand.tmp 11), type := 42, pos := "law.go:91", after := #[{ on := 20, ground := Ground.guard }], guard := some (20, false) }) (v := ?tkv5028) rfl (by kernel_rfl) (by kernel_rfl) (by kernel_rfl) (fun _ _ _ h => h) (Or.inl ⟨by rfl, ?tky5028⟩) hH5019 ?tkr5028
                  case tky5028 => (intro w' hSw; clear hSw; go_simp; try with_reducible rfl)
                  try simp only [Act.put, List.setIfInBounds_toArray, List.set_cons_zero, List.set_cons_succ]
                  refine wpAnyH_ready (rs := [22]) (by kernel_rfl) (by simp) ?_
                  refine AllReadyH.cons (o := { dst := some 107, op := Op.call { callee := Callee.value (Operand.func 12), args := #[Operand.tmp 106], argTypes := #[26] }, type := 3, pos := "law.go:91", after := #[{ on := 21, ground := Ground.data }, { on := 20, ground := Ground.chain }, { on := 20, ground := Ground.guard }], guard := some (20, false) }) rfl (fun K hK => ?_) AllReadyH.nil
                  go_simp
                  obtain ⟨FD5029, hd5029, _, _⟩ := SS5019.out.swap.first (keeps_mat _ _ _ _) (keeps_pair (keeps_head _ _ _ _ _ _) (keeps_all _ _))
                  have hsy5029 := needs_any FD5029 ga s kk P Z _ _ wn5019 hd5029 (matF_got f HK.out.1 HN80.out (i + 1)).inv HK.out HP.out HZZ.out
                  rw [HRK.out] at hsy5029
                  refine hsy5029.mono ?_
                  clear hsy5029 hd5029
                  rintro e' wn5029 ⟨rfl, hb5029⟩
                  have SS5029 : Hid (Sep3 (matO gm (kk + P) 1 (matG s kk P f (i + 1))) (decO ga s kk P Z (matF s kk P Z img f (i + 1)) (tkF s kk P Z img f (i + 1))) (pairO (headO s kk P Z img g) (allO (some ⟨bg, bo, none⟩) (uv al))) w2 wn5029) := Lib.hid (SS5019.out.below (keeps_mat _ _ _ _) (keeps_dec _ _ _ _ _ _ _) (keeps_pair (keeps_head _ _ _ _ _ _) (keeps_all _ _)) hb5029.out)
                  clear hb5029
                  go_simp
                  have hS5029 : Below w2.heap.size w2 wn5029 := SS5029.out.b
                  refine hK.out _ _ hS5029 (fun hH5029 => ?_)
                  have hH5029 : Below w2.heap.size w2 wn5029 := hH5029
                  clear hK K hS5029
                  try simp only [Act.put, List.setIfInBounds_toArray, List.set_cons_zero, List.set_cons_succ]
                  refine wpAnyH_ready (rs := [29]) (by kernel_rfl) (by simp) ?_
                  refine AllReadyH.cons (o := { dst := some 114, op := Op.call { callee := Callee.value (Operand.func 22), args := #[Operand.tmp 113], argTypes := #[42] }, type := 3, pos := "law.go:91", after := #[{ on := 28, ground := Ground.data }, { on := 22, ground := Ground.chain }, { on := 20, ground := Ground.guard }], guard := some (20, false) }) rfl (fun K hK => ?_) AllReadyH.nil
                  go_simp
                  obtain ⟨FD5030, hd5030, _, _⟩ := SS5029.out.first (keeps_dec _ _ _ _ _ _ _) (keeps_pair (keeps_head _ _ _ _ _ _) (keeps_all _ _))
                  have hsy5030 := rankI hd5030
                  rw [HRG.out] at hsy5030
                  refine hsy5030.mono ?_
                  clear hsy5030 hd5030
                  rintro e' wx5030 ⟨rfl, rfl⟩
                  go_simp
                  have hS5030 : Below w2.heap.size w2 wn5029 := hH5029
                  refine hK.out _ _ hS5030 (fun hH5030 => ?_)
                  have hH5030 : Below w2.heap.size w2 wn5029 := hH5030
                  clear hK K hS5030
                  try simp only [Act.put, List.setIfInBounds_toArray, List.set_cons_zero, List.set_cons_succ]
                  refine wpAnyH_take (i := 30) (oi := { dst := some 115, op := Op.binOp BinOp.sub 3 (Operand.tmp 112) (Operand.tmp 114) 3, type := 3, pos := "law.go:91", after := #[{ on := 27, ground := Ground.data }, { on := 29, ground := Ground.data }, { on := 20, ground := Ground.guard }], guard := some (20, false) }) (v := ?tkv5031) rfl (by kernel_rfl) (by kernel_rfl) (by kernel_rfl) (fun _ _ _ h => h) (Or.inl ⟨by rfl, ?tky5031⟩) hH5030 ?tkr5031
                  case tky5031 => (intro w' hSw; clear hSw; go_simp; try with_reducible rfl)
                  try simp only [Act.put, List.setIfInBounds_toArray, List.set_cons_zero, List.set_cons_succ]
                  refine wpAnyH_take (i := 31) (oi := { dst := some 116, op := Op.binOp BinOp.neq 3 (Operand.tmp 107) (Operand.tmp 115) 3, type := 4, pos := "law.go:91", after := #[{ on := 22, ground := Ground.data }, { on := 30, ground := Ground.data }, { on := 20, ground := Ground.guard }], guard := some (20, false) }) (v := ?tkv5032) rfl (by kernel_rfl) (by kernel_rfl) (by kernel_rfl) (fun _ _ _ h => h) (Or.inl ⟨by rfl, ?tky5032⟩) hH5030 ?tkr5032
                  case tky5032 => (intro w' hSw; clear hSw; go_simp; try with_reducible rfl)
                  try simp only [Act.put, List.setIfInBounds_toArray, List.set_cons_zero, List.set_cons_succ]
                  refine wpAnyH_take (i := 32) (oi := { dst := some 117, op := Op.pick (Operand.tmp 105) (Operand.const (Value.bool true)) (Operand.tmp 116), type := 4, pos := "law.go:91", after := #[{ on := 20, ground := Ground.data }, { on := 31, ground := Ground.data }], guard := none }) (v := ?tkv5033) rfl (by kernel_rfl) (by kernel_rfl) (by kernel_rfl) (fun _ _ _ h => h) (Or.inl ⟨by rfl, ?tky5033⟩) hH5030 ?tkr5033
                  case tky5033 => (intro w' hSw; clear hSw; go_simp; try with_reducible rfl)
                  try simp only [Act.put, List.setIfInBounds_toArray, List.set_cons_zero, List.set_cons_succ]
                  refine wpAnyH_done (by kernel_rfl) ?_ _
                  refine NoPanic.normal ?_
                  obtain ⟨w22, rfl⟩ : ∃ x : World, x = wn5029 := ⟨_, rfl⟩
                  have S22 := SS5029
                  clear SRD
                  obtain ⟨⟨y0, y1, y2, y3⟩, _⟩ := HFX.out w22 S22.out.b
                  obtain ⟨FD, hd, _, nextd⟩ := S22.out.swap.first (keeps_mat _ _ _ _) (keeps_pair (keeps_head _ _ _ _ _ _) (keeps_all _ _))
                  by_cases hf : rankM (matF s kk P Z img f (i + 1)) = kk + P
                  · have HIV := Lib.hid (matF_got (s := s) (P := P) (Z := Z) (img := img) f HK.out.1 HN80.out (i + 1)).inv
                    have HIMG : Hid (joinLs ((solM (matF s kk P Z img f (i + 1))).take kk) (img.length : Int) = img) := Lib.hid (by
                      rw [full_img HIV.out hf (matF_data f HK.out.1 HN80.out (i + 1))]
                      exact joinLs_img (by have := HI.out; omega) (by have := HI.out; omega) (by have := (count_facts _ _ kk HCN.out (by have := HK.out; omega)).2.2.2.2.2.1; exact_mod_cast this))
                    have HIA := Lib.hid (image_any FD ga s kk P Z _ _ (img.length : Int) w22 hd HIV.out hf HCN.out HK.out HP.out)
                    have NX := Lib.hid nextd
                    have HFD : Hid (decide (rankM (matG s kk P f (i + 1)) = kk + P) = true) := Lib.hid (by rw [matG_rank (Z := Z) (img := img) f HK.out.1 HN80.out, hf]; simp)
                    clear hd nextd hf
                    go_wp2_with fail
                    refine HIA.out.mono ?_
                    rintro e we ⟨Ae, ne, ce, rfl, hne, hoe, hde, hfe⟩
                    rw [HIMG.out] at hne hoe
                    have HOE := Lib.hid hoe.out
                    have SE : Hid (Sep3 (matO gm (kk + P) 1 (matG s kk P f (i + 1))) (decO ga s kk P Z (matF s kk P Z img f (i + 1)) (tkF s kk P Z img f (i + 1))) (pairO (headO s kk P Z img g) (allO (some ⟨bg, bo, none⟩) (uv al))) w2 we) := Lib.hid (NX.out we (decO ga s kk P Z (matF s kk P Z img f (i + 1)) (tkF s kk P Z img f (i + 1))) hde.out hfe.out).swap
                    clear HIA NX hne hoe hde hfe S22 y0 y1 y2 y3
                    obtain ⟨FM, hm, _, _⟩ := SE.out.first (keeps_dec _ _ _ _ _ _ _) (keeps_pair (keeps_head _ _ _ _ _ _) (keeps_all _ _))
                    have HFU := Lib.hid (fullI hm)
                    rw [HFD.out] at HFU
                    clear hm
                    go_wp2_with fail
                    refine HFU.out.mono ?_
                    rintro e wf ⟨rfl, hbf⟩
                    have SF := Lib.hid (SE.out.below (keeps_mat _ _ _ _) (keeps_dec _ _ _ _ _ _ _) (keeps_pair (keeps_head _ _ _ _ _ _) (keeps_all _ _)) hbf.out)
                    have hke := conv_own ce HOE.out wf hbf.out
                    have hki := conv_row c1 (HIM.out wf SF.out.b) SF.out.b.size wf (Below.refl _ _)
                    clear HFU
                    go_wp2_with fail
                    clear hke hki hbf SE
                    go_roundw
                    case rel => exact ⟨i + 1, by omega, by go_num, SF⟩
                    case measure => simp [intOf]; omega
                  · have HIA := Lib.hid (image_part FD ga s kk P Z _ _ (img.length : Int) w22 hd hf)
                    have HFD : Hid (decide (rankM (matG s kk P f (i + 1)) = kk + P) = false) := Lib.hid (by rw [matG_rank (Z := Z) (img := img) f HK.out.1 HN80.out]; simp [hf])
                    clear hd nextd hf
                    go_wp2_with fail
                    refine HIA.out.mono ?_
                    rintro e we ⟨rfl, hbe⟩
                    have SE : Hid (Sep3 (matO gm (kk + P) 1 (matG s kk P f (i + 1))) (decO ga s kk P Z (matF s kk P Z img f (i + 1)) (tkF s kk P Z img f (i + 1))) (pairO (headO s kk P Z img g) (allO (some ⟨bg, bo, none⟩) (uv al))) w2 we) := Lib.hid (S22.out.below (keeps_mat _ _ _ _) (keeps_dec _ _ _ _ _ _ _) (keeps_pair (keeps_head _ _ _ _ _ _) (keeps_all _ _)) hbe.out)
                    clear HIA hbe S22 y0 y1 y2 y3
                    obtain ⟨FM, hm, _, _⟩ := SE.out.first (keeps_dec _ _ _ _ _ _ _) (keeps_pair (keeps_head _ _ _ _ _ _) (keeps_all _ _))
                    have HFU := Lib.hid (fullI hm)
                    rw [HFD.out] at HFU
                    clear hm
                    go_wp2_with fail
                    refine HFU.out.mono ?_
                    rintro e wf ⟨rfl, hbf⟩
                    have SF := Lib.hid (SE.out.below (keeps_mat _ _ _ _) (keeps_dec _ _ _ _ _ _ _) (keeps_pair (keeps_head _ _ _ _ _ _) (keeps_all _ _)) hbf.out)
                    clear HFU
                    go_wp2_with fail
                    clear hbf SE
                    go_roundw
                    case rel => exact ⟨i + 1, by omega, by go_num, SF⟩
                    case measure => simp [intOf]; omega
                · obtain rfl : al.length = i := by omega
                  clear hlt
                  have SRD : Hid (Sep3 (matO gm (kk + P) 1 (matG s kk P f al.length)) (decO ga s kk P Z (matF s kk P Z img f al.length) (tkF s kk P Z img f al.length)) (pairO (headO s kk P Z img g) (allO Aa (uv al))) w2 wr.drew) := Lib.hid (SR.out.below (keeps_mat _ _ _ _) (keeps_dec _ _ _ _ _ _ _) (keeps_pair (keeps_head _ _ _ _ _ _) (keeps_all _ _)) (Below.refl _ _).drew)
                  clear SR
                  cases rest with
                  | false =>
                    go_upto_region 28 with fail
                    refine wp_region_noPanic ?_
                    refine wp_region_held_drew (S := (fun W => Below w2.heap.size w2 W)) (by kernel_rfl) (SRD.out.b) (fun hH0 => ?_)
                    have hH0 : Below w2.heap.size w2 wr.drew := hH0
                    generalize wr.drew = wd7000 at *
                    refine wpAnyH_take (i := 0) (oi := { dst := some 140, op := Op.move (Operand.tmp 3), type := 4, pos := "law.go:99", after := #[], guard := none }) (v := ?tkv7001) rfl (by kernel_rfl) (by kernel_rfl) (by kernel_rfl) (fun _ _ _ h => h) (Or.inl ⟨by rfl, ?tky7001⟩) hH0 ?tkr7001
                    case tky7001 => (intro w' hSw; clear hSw; go_simp; try with_reducible rfl)
                    try simp only [Act.put, List.setIfInBounds_toArray, List.set_cons_zero, List.set_cons_succ]
                    refine wpAnyH_take (i := 1) (oi := { dst := some 141, op := Op.unOp UnOp.not 4 (Operand.tmp 140), type := 4, pos := "law.go:99", after := #[{ on := 0, ground := Ground.data }], guard := none }) (v := ?tkv7002) rfl (by kernel_rfl) (by kernel_rfl) (by kernel_rfl) (fun _ _ _ h => h) (Or.inl ⟨by rfl, ?tky7002⟩) hH0 ?tkr7002
                    case tky7002 => (intro w' hSw; clear hSw; go_simp; try with_reducible rfl)
                    try simp only [Act.put, List.setIfInBounds_toArray, List.set_cons_zero, List.set_cons_succ]
                    refine wpAnyH_take (i := 2) (oi := { dst := some 142, op := Op.move (Operand.tmp 141), type := 4, pos := "law.go:99", after := #[{ on := 1, ground := Ground.data }], guard := none }) (v := ?tkv7003) rfl (by kernel_rfl) (by kernel_rfl) (by kernel_rfl) (fun _ _ _ h => h) (Or.inl ⟨by rfl, ?tky7003⟩) hH0 ?tkr7003
                    case tky7003 => (intro w' hSw; clear hSw; go_simp; try with_reducible rfl)
                    try simp only [Act.put, List.setIfInBounds_toArray, List.set_cons_zero, List.set_cons_succ]
                    refine wpAnyH_take (i := 3) (oi := { dst := some 143, op := Op.move (Operand.tmp 11), type := 42, pos := "law.go:99", after := #[{ on := 2, ground := Ground.guard }], guard := some (2, false) }) (v := undef) rfl (by kernel_rfl) (by kernel_rfl) (by kernel_rfl) (fun _ _ _ h => h) (Or.inr ⟨by rfl, rfl⟩) hH0 ?tkr7004
                    try simp only [Act.put, List.setIfInBounds_toArray, List.set_cons_zero, List.set_cons_succ]
                    refine wpAnyH_take (i := 4) (oi := { dst := some 144, op := Op.call { callee := Callee.value (Operand.func 23), args := #[Operand.tmp 143], argTypes := #[42] }, type := 4, pos := "law.go:99", after := #[{ on := 3, ground := Ground.data }, { on := 2, ground := Ground.chain }, { on := 2, ground := Ground.guard }], guard := some (2, false) }) (v := undef) rfl (by kernel_rfl) (by kernel_rfl) (by kernel_rfl) (fun _ _ _ h => h) (Or.inr ⟨by rfl, rfl⟩) hH0 ?tkr7005
                    try simp only [Act.put, List.setIfInBounds_toArray, List.set_cons_zero, List.set_cons_succ]
                    refine wpAnyH_take (i := 5) (oi := { dst := some 145, op := Op.move (Operand.tmp 144), type := 4, pos := "law.go:99", after := #[{ on := 4, ground := Ground.data }, { on := 4, ground := Ground.chain }, { on := 2, ground := Ground.guard }], guard := some (2, false) }) (v := undef) rfl (by kernel_rfl) (by kernel_rfl) (by kernel_rfl) (fun _ _ _ h => h) (Or.inr ⟨by rfl, rfl⟩) hH0 ?tkr7006
                    try simp only [Act.put, List.setIfInBounds_toArray, List.set_cons_zero, List.set_cons_succ]
                    refine wpAnyH_take (i := 6) (oi := { dst := some 146, op := Op.move (Operand.tmp 10), type := 26, pos := "law.go:99", after := #[{ on := 5, ground := Ground.guard }], guard := some (5, true) }) (v := undef) rfl (by kernel_rfl) (by kernel_rfl) (by kernel_rfl) (fun _ _ _ h => h) (Or.inr ⟨by rfl, rfl⟩) hH0 ?tkr7007
                    try simp only [Act.put, List.setIfInBounds_toArray, List.set_cons_zero, List.set_cons_succ]
                    refine wpAnyH_take (i := 7) (oi := { dst := some 147, op := Op.call { callee := Callee.value (Operand.func 11), args := #[Operand.tmp 146], argTypes := #[26] }, type := 3, pos := "law.go:99", after := #[{ on := 6, ground := Ground.data }, { on := 5, ground := Ground.chain }, { on := 5, ground := Ground.guard }], guard := some (5, true) }) (v := undef) rfl (by kernel_rfl) (by kernel_rfl) (by kernel_rfl) (fun _ _ _ h => h) (Or.inr ⟨by rfl, rfl⟩) hH0 ?tkr7008
                    try simp only [Act.put, List.setIfInBounds_toArray, List.set_cons_zero, List.set_cons_succ]
                    refine wpAnyH_take (i := 8) (oi := { dst := some 148, op := Op.fieldAddr 35 (Operand.tmp 4) 1, type := 0, pos := "law.go:99", after := #[{ on := 5, ground := Ground.guard }], guard := some (5, true) }) (v := undef) rfl (by kernel_rfl) (by kernel_rfl) (by kernel_rfl) (fun _ _ _ h => h) (Or.inr ⟨by rfl, rfl⟩) hH0 ?tkr7009
                    try simp only [Act.put, List.setIfInBounds_toArray, List.set_cons_zero, List.set_cons_succ]
                    refine wpAnyH_take (i := 9) (oi := { dst := some 149, op := Op.load 3 (Operand.tmp 148), type := 3, pos := "law.go:99", after := #[{ on := 8, ground := Ground.data }, { on := 5, ground := Ground.guard }], guard := some (5, true) }) (v := undef) rfl (by kernel_rfl) (by kernel_rfl) (by kernel_rfl) (fun _ _ _ h => h) (Or.inr ⟨by rfl, rfl⟩) hH0 ?tkr7010
                    try simp only [Act.put, List.setIfInBounds_toArray, List.set_cons_zero, List.set_cons_succ]
                    refine wpAnyH_take (i := 10) (oi := { dst := some 150, op := Op.binOp BinOp.eql 3 (Operand.tmp 147) (Operand.tmp 149) 3, type := 4, pos := "law.go:99", after := #[{ on := 7, ground := Ground.data }, { on := 9, ground := Ground.data }, { on := 5, ground := Ground.guard }], guard := some (5, true) }) (v := undef) rfl (by kernel_rfl) (by kernel_rfl) (by kernel_rfl) (fun _ _ _ h => h) (Or.inr ⟨by rfl, rfl⟩) hH0 ?tkr7011
                    try simp only [Act.put, List.setIfInBounds_toArray, List.set_cons_zero, List.set_cons_succ]
                    refine wpAnyH_take (i := 11) (oi := { dst := some 151, op := Op.pick (Operand.tmp 145) (Operand.tmp 150) (Operand.const (Value.bool false)), type := 4, pos := "law.go:99", after := #[{ on := 5, ground := Ground.data }, { on := 10, ground := Ground.data }, { on := 2, ground := Ground.guard }], guard := some (2, false) }) (v := undef) rfl (by kernel_rfl) (by kernel_rfl) (by kernel_rfl) (fun _ _ _ h => h) (Or.inr ⟨by rfl, rfl⟩) hH0 ?tkr7012
                    try simp only [Act.put, List.setIfInBounds_toArray, List.set_cons_zero, List.set_cons_succ]
                    refine wpAnyH_take (i := 12) (oi := { dst := some 152, op := Op.pick (Operand.tmp 142) (Operand.const (Value.bool true)) (Operand.tmp 151), type := 4, pos := "law.go:99", after := #[{ on := 2, ground := Ground.data }, { on := 11, ground := Ground.data }], guard := none }) (v := ?tkv7013) rfl (by kernel_rfl) (by kernel_rfl) (by kernel_rfl) (fun _ _ _ h => h) (Or.inl ⟨by rfl, ?tky7013⟩) hH0 ?tkr7013
                    case tky7013 => (intro w' hSw; clear hSw; go_simp; try with_reducible rfl)
                    try simp only [Act.put, List.setIfInBounds_toArray, List.set_cons_zero, List.set_cons_succ]
                    refine wpAnyH_take (i := 13) (oi := { dst := some 153, op := Op.move (Operand.tmp 152), type := 4, pos := "law.go:99", after := #[{ on := 12, ground := Ground.data }, { on := 7, ground := Ground.chain }], guard := none }) (v := ?tkv7014) rfl (by kernel_rfl) (by kernel_rfl) (by kernel_rfl) (fun _ _ _ h => h) (Or.inl ⟨by rfl, ?tky7014⟩) hH0 ?tkr7014
                    case tky7014 => (intro w' hSw; clear hSw; go_simp; try with_reducible rfl)
                    try simp only [Act.put, List.setIfInBounds_toArray, List.set_cons_zero, List.set_cons_succ]
                    refine wpAnyH_ready (rs := [14]) (by kernel_rfl) (by simp) ?_
                    refine AllReadyH.cons (o := { dst := some 154, op := Op.call { callee := Callee.value (Operand.func 13), args := #[], argTypes := #[] }, type := 4, pos := "law.go:99", after := #[{ on := 13, ground := Ground.chain }, { on := 13, ground := Ground.guard }], guard := some (13, true) }) rfl (fun K hK => ?_) AllReadyH.nil
                    go_simp
                    refine (awake12_any wd7000 (HDT.out wd7000 (hH0))).mono ?_
                    rintro e' wn7015 ⟨rfl, hb7015⟩
                    have hb7015 := hb7015.out
                    go_simp
                    have hS7015 : Below w2.heap.size w2 wn7015 := (hH0).trans (hb7015.mono (hH0).size)
                    refine hK.out _ _ hS7015 (fun hH7015 => ?_)
                    have hH7015 : Below w2.heap.size w2 wn7015 := hH7015
                    clear hK K hS7015
                    try simp only [Act.put, List.setIfInBounds_toArray, List.set_cons_zero, List.set_cons_succ]
                    refine wpAnyH_take (i := 15) (oi := { dst := some 155, op := Op.pick (Operand.tmp 153) (Operand.tmp 154) (Operand.const (Value.bool false)), type := 4, pos := "law.go:99", after := #[{ on := 13, ground := Ground.data }, { on := 14, ground := Ground.data }], guard := none }) (v := ?tkv7016) rfl (by kernel_rfl) (by kernel_rfl) (by kernel_rfl) (fun _ _ _ h => h) (Or.inl ⟨by rfl, ?tky7016⟩) hH7015 ?tkr7016
                    case tky7016 => (intro w' hSw; clear hSw; go_simp; try with_reducible rfl)
                    try simp only [Act.put, List.setIfInBounds_toArray, List.set_cons_zero, List.set_cons_succ]
                    refine wpAnyH_take (i := 16) (oi := { dst := some 8, op := Op.assign (Operand.tmp 155), type := 4, pos := "law.go:99", after := #[{ on := 15, ground := Ground.data }, { on := 14, ground := Ground.chain }, { on := 0, ground := Ground.phase }, { on := 1, ground := Ground.phase }, { on := 2, ground := Ground.phase }, { on := 3, ground := Ground.phase }, { on := 4, ground := Ground.phase }, { on := 5, ground := Ground.phase }, { on := 6, ground := Ground.phase }, { on := 7, ground := Ground.phase }, { on := 8, ground := Ground.phase }, { on := 9, ground := Ground.phase }, { on := 10, ground := Ground.phase }, { on := 11, ground := Ground.phase }, { on := 12, ground := Ground.phase }, { on := 13, ground := Ground.phase }, { on := 14, ground := Ground.phase }, { on := 15, ground := Ground.phase }], guard := none }) (v := ?tkv7017) rfl (by kernel_rfl) (by kernel_rfl) (by kernel_rfl) (fun _ _ _ h => h) (Or.inl ⟨by rfl, ?tky7017⟩) hH7015 ?tkr7017
                    case tky7017 => (intro w' hSw; clear hSw; go_simp; try with_reducible rfl)
                    try simp only [Act.put, List.setIfInBounds_toArray, List.set_cons_zero, List.set_cons_succ]
                    refine wpAnyH_done (by kernel_rfl) ?_ _
                    refine NoPanic.normal ?_
                    have HB9 := Lib.hid (HB2.out.trans ((hH7015).mono HB2.out.size))
                    go_wp2_with fail
                    go_ret
                    exact ⟨rfl, HB9.out⟩
                  | true =>
                    have hfull := matF_all (s := s) (P := P) (Z := Z) (img := img) f HK.out.1 HN80.out al.length (HHS.out rfl)
                    have HFD : Hid (decide (rankM (matG s kk P f al.length) = kk + P) = true) := Lib.hid (by rw [matG_rank (Z := Z) (img := img) f HK.out.1 HN80.out, hfull]; simp)
                    have HTK : Hid (tkF s kk P Z img f al.length = kk) := Lib.hid (by unfold tkF; rw [hfull]; omega)
                    have hkk1 : ((kk : Int) == (kk : Int)) = true := by simp
                    clear hfull
                    go_upto_region 28 with fail
                    refine wp_region_noPanic ?_
                    refine wp_region_held_drew (S := (fun W => Below w2.heap.size w2 W)) (by kernel_rfl) (SRD.out.b) (fun hH0 => ?_)
                    have hH0 : Below w2.heap.size w2 wr.drew := hH0
                    generalize wr.drew = wd8000 at *
                    refine wpAnyH_take (i := 0) (oi := { dst := some 140, op := Op.move (Operand.tmp 3), type := 4, pos := "law.go:99", after := #[], guard := none }) (v := ?tkv8001) rfl (by kernel_rfl) (by kernel_rfl) (by kernel_rfl) (fun _ _ _ h => h) (Or.inl ⟨by rfl, ?tky8001⟩) hH0 ?tkr8001
                    case tky8001 => (intro w' hSw; clear hSw; go_simp; try with_reducible rfl)
                    try simp only [Act.put, List.setIfInBounds_toArray, List.set_cons_zero, List.set_cons_succ]
                    refine wpAnyH_take (i := 1) (oi := { dst := some 141, op := Op.unOp UnOp.not 4 (Operand.tmp 140), type := 4, pos := "law.go:99", after := #[{ on := 0, ground := Ground.data }], guard := none }) (v := ?tkv8002) rfl (by kernel_rfl) (by kernel_rfl) (by kernel_rfl) (fun _ _ _ h => h) (Or.inl ⟨by rfl, ?tky8002⟩) hH0 ?tkr8002
                    case tky8002 => (intro w' hSw; clear hSw; go_simp; try with_reducible rfl)
                    try simp only [Act.put, List.setIfInBounds_toArray, List.set_cons_zero, List.set_cons_succ]
                    refine wpAnyH_take (i := 2) (oi := { dst := some 142, op := Op.move (Operand.tmp 141), type := 4, pos := "law.go:99", after := #[{ on := 1, ground := Ground.data }], guard := none }) (v := ?tkv8003) rfl (by kernel_rfl) (by kernel_rfl) (by kernel_rfl) (fun _ _ _ h => h) (Or.inl ⟨by rfl, ?tky8003⟩) hH0 ?tkr8003
                    case tky8003 => (intro w' hSw; clear hSw; go_simp; try with_reducible rfl)
                    try simp only [Act.put, List.setIfInBounds_toArray, List.set_cons_zero, List.set_cons_succ]
                    refine wpAnyH_take (i := 3) (oi := { dst := some 143, op := Op.move (Operand.tmp 11), type := 42, pos := "law.go:99", after := #[{ on := 2, ground := Ground.guard }], guard := some (2, false) }) (v := ?tkv8004) rfl (by kernel_rfl) (by kernel_rfl) (by kernel_rfl) (fun _ _ _ h => h) (Or.inl ⟨by rfl, ?tky8004⟩) hH0 ?tkr8004
                    case tky8004 => (intro w' hSw; clear hSw; go_simp; try with_reducible rfl)
                    try simp only [Act.put, List.setIfInBounds_toArray, List.set_cons_zero, List.set_cons_succ]
                    refine wpAnyH_ready (rs := [4]) (by kernel_rfl) (by simp) ?_
                    refine AllReadyH.cons (o := { dst := some 144, op := Op.call { callee := Callee.value (Operand.func 23), args := #[Operand.tmp 143], argTypes := #[42] }, type := 4, pos := "law.go:99", after := #[{ on := 3, ground := Ground.data }, { on := 2, ground := Ground.chain }, { on := 2, ground := Ground.guard }], guard := some (2, false) }) rfl (fun K hK => ?_) AllReadyH.nil
                    go_simp
                    obtain ⟨FD8005, hd8005, _, _⟩ := SRD.out.first (keeps_dec _ _ _ _ _ _ _) (keeps_pair (keeps_head _ _ _ _ _ _) (keeps_all _ _))
                    have hsy8005 := fullI hd8005
                    rw [HFD.out] at hsy8005
                    refine hsy8005.mono ?_
                    clear hsy8005 hd8005
                    rintro e' wn8005 ⟨rfl, hb8005⟩
                    have SS8005 := Lib.hid (SRD.out.below (keeps_mat _ _ _ _) (keeps_dec _ _ _ _ _ _ _) (keeps_pair (keeps_head _ _ _ _ _ _) (keeps_all _ _)) hb8005.out)
                    clear hb8005
                    go_simp
                    have hS8005 : Below w2.heap.size w2 wn8005 := SS8005.out.b
                    refine hK.out _ _ hS8005 (fun hH8005 => ?_)
                    have hH8005 : Below w2.heap.size w2 wn8005 := hH8005
                    clear hK K hS8005
                    try simp only [Act.put, List.setIfInBounds_toArray, List.set_cons_zero, List.set_cons_succ]
                    refine wpAnyH_take (i := 5) (oi := { dst := some 145, op := Op.move (Operand.tmp 144), type := 4, pos := "law.go:99", after := #[{ on := 4, ground := Ground.data }, { on := 4, ground := Ground.chain }, { on := 2, ground := Ground.guard }], guard := some (2, false) }) (v := ?tkv8006) rfl (by kernel_rfl) (by kernel_rfl) (by kernel_rfl) (fun _ _ _ h => h) (Or.inl ⟨by rfl, ?tky8006⟩) hH8005 ?tkr8006
                    case tky8006 => (intro w' hSw; clear hSw; go_simp; try with_reducible rfl)
                    try simp only [Act.put, List.setIfInBounds_toArray, List.set_cons_zero, List.set_cons_succ]
                    refine wpAnyH_take (i := 6) (oi := { dst := some 146, op := Op.move (Operand.tmp 10), type := 26, pos := "law.go:99", after := #[{ on := 5, ground := Ground.guard }], guard := some (5, true) }) (v := ?tkv8007) rfl (by kernel_rfl) (by kernel_rfl) (by kernel_rfl) (fun _ _ _ h => h) (Or.inl ⟨by rfl, ?tky8007⟩) hH8005 ?tkr8007
                    case tky8007 => (intro w' hSw; clear hSw; go_simp; try with_reducible rfl)
                    try simp only [Act.put, List.setIfInBounds_toArray, List.set_cons_zero, List.set_cons_succ]
                    refine wpAnyH_take (i := 8) (oi := { dst := some 148, op := Op.fieldAddr 35 (Operand.tmp 4) 1, type := 0, pos := "law.go:99", after := #[{ on := 5, ground := Ground.guard }], guard := some (5, true) }) (v := ?tkv8008) rfl (by kernel_rfl) (by kernel_rfl) (by kernel_rfl) (fun _ _ _ h => h) (Or.inl ⟨by rfl, ?tky8008⟩) hH8005 ?tkr8008
                    case tky8008 => (intro w' hSw; clear hSw; go_simp; try with_reducible rfl)
                    try simp only [Act.put, List.setIfInBounds_toArray, List.set_cons_zero, List.set_cons_succ]
                    refine wpAnyH_take (i := 9) (oi := { dst := some 149, op := Op.load 3 (Operand.tmp 148), type := 3, pos := "law.go:99", after := #[{ on := 8, ground := Ground.data }, { on := 5, ground := Ground.guard }], guard := some (5, true) }) (v := ?tkv8009) rfl (by kernel_rfl) (by kernel_rfl) (by kernel_rfl) (fun _ _ _ h => h) (Or.inl ⟨by rfl, ?tky8009⟩) hH8005 ?tkr8009
                    case tky8009 => (intro w' hSw; have z0 := HFX.out _ hSw; clear hSw; go_simp; try with_reducible rfl)
                    try simp only [Act.put, List.setIfInBounds_toArray, List.set_cons_zero, List.set_cons_succ]
                    refine wpAnyH_ready (rs := [7]) (by kernel_rfl) (by simp) ?_
                    refine AllReadyH.cons (o := { dst := some 147, op := Op.call { callee := Callee.value (Operand.func 11), args := #[Operand.tmp 146], argTypes := #[26] }, type := 3, pos := "law.go:99", after := #[{ on := 6, ground := Ground.data }, { on := 5, ground := Ground.chain }, { on := 5, ground := Ground.guard }], guard := some (5, true) }) rfl (fun K hK => ?_) AllReadyH.nil
                    go_simp
                    obtain ⟨FD8010, hd8010, _, _⟩ := SS8005.out.swap.first (keeps_mat _ _ _ _) (keeps_pair (keeps_head _ _ _ _ _ _) (keeps_all _ _))
                    have hsy8010 := taken_any FD8010 ga s kk P Z _ _ wn8005 hd8010
                    rw [HTK.out] at hsy8010
                    refine hsy8010.mono ?_
                    clear hsy8010 hd8010
                    rintro e' wx8010 ⟨rfl, rfl⟩
                    go_simp
                    have hS8010 : Below w2.heap.size w2 wn8005 := hH8005
                    refine hK.out _ _ hS8010 (fun hH8010 => ?_)
                    have hH8010 : Below w2.heap.size w2 wn8005 := hH8010
                    clear hK K hS8010
                    try simp only [Act.put, List.setIfInBounds_toArray, List.set_cons_zero, List.set_cons_succ]
                    refine wpAnyH_take (i := 10) (oi := { dst := some 150, op := Op.binOp BinOp.eql 3 (Operand.tmp 147) (Operand.tmp 149) 3, type := 4, pos := "law.go:99", after := #[{ on := 7, ground := Ground.data }, { on := 9, ground := Ground.data }, { on := 5, ground := Ground.guard }], guard := some (5, true) }) (v := ?tkv8011) rfl (by kernel_rfl) (by kernel_rfl) (by kernel_rfl) (fun _ _ _ h => h) (Or.inl ⟨by rfl, ?tky8011⟩) hH8010 ?tkr8011
                    case tky8011 => (intro w' hSw; clear hSw; go_simp; try with_reducible rfl)
                    try simp only [Act.put, List.setIfInBounds_toArray, List.set_cons_zero, List.set_cons_succ]
                    refine wpAnyH_take (i := 11) (oi := { dst := some 151, op := Op.pick (Operand.tmp 145) (Operand.tmp 150) (Operand.const (Value.bool false)), type := 4, pos := "law.go:99", after := #[{ on := 5, ground := Ground.data }, { on := 10, ground := Ground.data }, { on := 2, ground := Ground.guard }], guard := some (2, false) }) (v := ?tkv8012) rfl (by kernel_rfl) (by kernel_rfl) (by kernel_rfl) (fun _ _ _ h => h) (Or.inl ⟨by rfl, ?tky8012⟩) hH8010 ?tkr8012
                    case tky8012 => (intro w' hSw; clear hSw; go_simp; try with_reducible rfl)
                    try simp only [Act.put, List.setIfInBounds_toArray, List.set_cons_zero, List.set_cons_succ]
                    refine wpAnyH_take (i := 12) (oi := { dst := some 152, op := Op.pick (Operand.tmp 142) (Operand.const (Value.bool true)) (Operand.tmp 151), type := 4, pos := "law.go:99", after := #[{ on := 2, ground := Ground.data }, { on := 11, ground := Ground.data }], guard := none }) (v := ?tkv8013) rfl (by kernel_rfl) (by kernel_rfl) (by kernel_rfl) (fun _ _ _ h => h) (Or.inl ⟨by rfl, ?tky8013⟩) hH8010 ?tkr8013
                    case tky8013 => (intro w' hSw; clear hSw; go_simp; try with_reducible rfl)
                    try simp only [Act.put, List.setIfInBounds_toArray, List.set_cons_zero, List.set_cons_succ]
                    refine wpAnyH_take (i := 13) (oi := { dst := some 153, op := Op.move (Operand.tmp 152), type := 4, pos := "law.go:99", after := #[{ on := 12, ground := Ground.data }, { on := 7, ground := Ground.chain }], guard := none }) (v := ?tkv8014) rfl (by kernel_rfl) (by kernel_rfl) (by kernel_rfl) (fun _ _ _ h => h) (Or.inl ⟨by rfl, ?tky8014⟩) hH8010 ?tkr8014
                    case tky8014 => (intro w' hSw; clear hSw; go_simp; try with_reducible rfl)
                    try simp only [Act.put, List.setIfInBounds_toArray, List.set_cons_zero, List.set_cons_succ]
                    refine wpAnyH_ready (rs := [14]) (by kernel_rfl) (by simp) ?_
                    refine AllReadyH.cons (o := { dst := some 154, op := Op.call { callee := Callee.value (Operand.func 13), args := #[], argTypes := #[] }, type := 4, pos := "law.go:99", after := #[{ on := 13, ground := Ground.chain }, { on := 13, ground := Ground.guard }], guard := some (13, true) }) rfl (fun K hK => ?_) AllReadyH.nil
                    go_simp
                    refine (awake12_any wn8005 (HDT.out wn8005 (hH8010))).mono ?_
                    rintro e' wn8015 ⟨rfl, hb8015⟩
                    have hb8015 := hb8015.out
                    go_simp
                    have hS8015 : Below w2.heap.size w2 wn8015 := (hH8010).trans (hb8015.mono (hH8010).size)
                    refine hK.out _ _ hS8015 (fun hH8015 => ?_)
                    have hH8015 : Below w2.heap.size w2 wn8015 := hH8015
                    clear hK K hS8015
                    try simp only [Act.put, List.setIfInBounds_toArray, List.set_cons_zero, List.set_cons_succ]
                    refine wpAnyH_take (i := 15) (oi := { dst := some 155, op := Op.pick (Operand.tmp 153) (Operand.tmp 154) (Operand.const (Value.bool false)), type := 4, pos := "law.go:99", after := #[{ on := 13, ground := Ground.data }, { on := 14, ground := Ground.data }], guard := none }) (v := ?tkv8016) rfl (by kernel_rfl) (by kernel_rfl) (by kernel_rfl) (fun _ _ _ h => h) (Or.inl ⟨by rfl, ?tky8016⟩) hH8015 ?tkr8016
                    case tky8016 => (intro w' hSw; clear hSw; go_simp; try with_reducible rfl)
                    try simp only [Act.put, List.setIfInBounds_toArray, List.set_cons_zero, List.set_cons_succ]
                    refine wpAnyH_take (i := 16) (oi := { dst := some 8, op := Op.assign (Operand.tmp 155), type := 4, pos := "law.go:99", after := #[{ on := 15, ground := Ground.data }, { on := 14, ground := Ground.chain }, { on := 0, ground := Ground.phase }, { on := 1, ground := Ground.phase }, { on := 2, ground := Ground.phase }, { on := 3, ground := Ground.phase }, { on := 4, ground := Ground.phase }, { on := 5, ground := Ground.phase }, { on := 6, ground := Ground.phase }, { on := 7, ground := Ground.phase }, { on := 8, ground := Ground.phase }, { on := 9, ground := Ground.phase }, { on := 10, ground := Ground.phase }, { on := 11, ground := Ground.phase }, { on := 12, ground := Ground.phase }, { on := 13, ground := Ground.phase }, { on := 14, ground := Ground.phase }, { on := 15, ground := Ground.phase }], guard := none }) (v := ?tkv8017) rfl (by kernel_rfl) (by kernel_rfl) (by kernel_rfl) (fun _ _ _ h => h) (Or.inl ⟨by rfl, ?tky8017⟩) hH8015 ?tkr8017
                    case tky8017 => (intro w' hSw; clear hSw; go_simp; try with_reducible rfl)
                    try simp only [Act.put, List.setIfInBounds_toArray, List.set_cons_zero, List.set_cons_succ]
                    refine wpAnyH_done (by kernel_rfl) ?_ _
                    refine NoPanic.normal ?_
                    have HB9 := Lib.hid (HB2.out.trans ((hH8015).mono HB2.out.size))
                    go_wp2_with fail
                    go_ret
                    exact ⟨rfl, HB9.out⟩
end Go.Proofs.YtpmmolamdlcmnaaGreatDoor.Dc
namespace Go.Proofs.YtpmmolamdlcmnaaGreatDoor
open Go.ChangeShapes Go.WideShapes Go.ChangeAt Go.RowKit
theorem nums_at {w : World} {a : Addr} {c : Nat} {f : Nat → Value} (h : ∀ i, i < c → w.cell? (a.add i) = some (f i)) (hp : 0 < c) :
    ∃ b o, a = ⟨b, o, none⟩ ∧ ∀ i, i < c → w.cell? ⟨b, o + i, none⟩ = some (f i) := by
  obtain ⟨b, o, spot⟩ := a
  have hspot : spot = none := by simpa [Addr.add] using World.cell?_spot (h 0 hp)
  subst hspot
  exact ⟨b, o, rfl, fun i hi => by rw [← Go.WideShapes.add_plain]; exact h i hi⟩
theorem open_nums {H : Type} {enc : TypeId × Value → H} {P : Program} {W : World} {base : Nat} {t e : TypeId} {v : Value} {d : DataW H} {ps : List MemPlace}
    (ht : P.underlying t = some (.slice e)) (he : P.underlying e = some (.int .i64)) (hc : P.cellsOf e = 1) (hval : Value.okWide P W .any base t v) (h : DataW.Trod enc P W 0 (fun _ => true) true t v d ps) :
    ∃ (A : Option Addr) (n cap : Nat) (zs : List Int), v = .slice A n cap ∧ n ≤ cap ∧ cap ≤ 9223372036854775807 ∧
      (∀ i, i < n → ∃ b o, A = some ⟨b, o, none⟩ ∧ b < W.heap.size ∧ W.cell? ⟨b, o + i, none⟩ = some (.int .i64 (zs.getD i 0)) ∧ -9223372036854775808 ≤ zs.getD i 0 ∧ zs.getD i 0 ≤ 9223372036854775807) := by
  obtain ⟨a0, len, cap, rfl⟩ := okWide_slice ht hval
  obtain ⟨fuel, hf⟩ := h
  rcases open_ints ht he hc hf with ⟨hcs, hx⟩ | ⟨a, len', cap', zs, hcs, _, hl, hm, hz, hx, hcell, hwz⟩
  · simp [Value.cells] at hcs
    obtain ⟨rfl, rfl, rfl⟩ := hcs
    exact ⟨none, 0, 0, [], rfl, Nat.le_refl _, by omega, fun i hi => by omega⟩
  · simp [Value.cells] at hcs
    obtain ⟨rfl, rfl, rfl⟩ := hcs
    unfold maxLen at hm
    simp at hz
    refine ⟨_, _, _, zs, rfl, hl, by omega, fun i hi => ?_⟩
    obtain ⟨b, o, rfl, hc2⟩ := nums_at hcell (by omega)
    have hi2 : i < zs.length := by omega
    have hmem : zs.getD i 0 ∈ zs := by rw [List.getD_eq_getElem?_getD, List.getElem?_eq_getElem hi2]; exact List.getElem_mem hi2
    have hw := hwz _ hmem
    have hb : -9223372036854775808 ≤ zs.getD i 0 ∧ zs.getD i 0 ≤ 9223372036854775807 := by simpa [Lit.wf, IntKind.min, IntKind.max, IntKind.signed, IntKind.bits] using hw
    exact ⟨b, o, rfl, block_lt_of_cell (hc2 i hi2), hc2 i hi2, hb.1, hb.2⟩
end Go.Proofs.YtpmmolamdlcmnaaGreatDoor
namespace Go.Proofs.YtpmmolamdlcmnaaGreatDoor
open Go.ChangeShapes Go.WideShapes Go.ChangeAt Go.RowKit
theorem open_u32s {H : Type} {enc : TypeId × Value → H} {P : Program} {W : World} {base : Nat} {t e : TypeId} {v : Value} {d : DataW H} {ps : List MemPlace}
    (ht : P.underlying t = some (.slice e)) (he : P.underlying e = some (.int .u32)) (hc : P.cellsOf e = 1) (hval : Value.okWide P W .any base t v) (h : DataW.Trod enc P W 0 (fun _ => true) true t v d ps) :
    ∃ (A : Option Addr) (n cap : Nat) (us : List Nat), v = .slice A n cap ∧ n ≤ cap ∧ cap ≤ 9223372036854775807 ∧
      (∀ i, i < n → ∃ b o, A = some ⟨b, o, none⟩ ∧ b < W.heap.size ∧ W.cell? ⟨b, o + i, none⟩ = some (.int .u32 ((us.getD i 0 : Nat) : Int)) ∧ us.getD i 0 < 4294967296) := by
  obtain ⟨a0, len, cap, rfl⟩ := okWide_slice ht hval
  obtain ⟨fuel, hf⟩ := h
  rcases open_ints ht he hc hf with ⟨hcs, hx⟩ | ⟨a, len', cap', zs, hcs, _, hl, hm, hz, hx, hcell, hwz⟩
  · simp [Value.cells] at hcs
    obtain ⟨rfl, rfl, rfl⟩ := hcs
    exact ⟨none, 0, 0, [], rfl, Nat.le_refl _, by omega, fun i hi => by omega⟩
  · simp [Value.cells] at hcs
    obtain ⟨rfl, rfl, rfl⟩ := hcs
    unfold maxLen at hm
    simp at hz
    refine ⟨_, _, _, zs.map Int.toNat, rfl, hl, by omega, fun i hi => ?_⟩
    obtain ⟨b, o, rfl, hc2⟩ := nums_at hcell (by omega)
    have hi2 : i < zs.length := by omega
    have hmem : zs.getD i 0 ∈ zs := by rw [List.getD_eq_getElem?_getD, List.getElem?_eq_getElem hi2]; exact List.getElem_mem hi2
    have hw := hwz _ hmem
    have hb : 0 ≤ zs.getD i 0 ∧ zs.getD i 0 ≤ 4294967295 := by simpa [Lit.wf, IntKind.min, IntKind.max, IntKind.signed, IntKind.bits] using hw
    have e : (zs.map Int.toNat).getD i 0 = (zs.getD i 0).toNat := by
      rw [List.getD_eq_getElem?_getD, List.getD_eq_getElem?_getD, List.getElem?_map, List.getElem?_eq_getElem hi2]; rfl
    refine ⟨b, o, rfl, block_lt_of_cell (hc2 i hi2), ?_, ?_⟩
    · rw [e, Int.toNat_of_nonneg hb.1]; exact hc2 i hi2
    · rw [e]; omega
end Go.Proofs.YtpmmolamdlcmnaaGreatDoor
namespace Go.Proofs.YtpmmolamdlcmnaaGreatDoor
open Go.RowKit Go.ChangeShapes Go.WideShapes Go.ChangeAt Vc
set_option maxRecDepth 100000 in
theorem decodeImage_lifted (os : Os) (started : os.Started) (H : Type) (enc : TypeId × Value → H) :
    ReturnsInHanded {} Tryz.checked os 4 .any (fun w args => (Rows.decodeImageSpec.pre enc Tryz.prog Tryz.f4 [] false w args ∧ laidMetH Tryz.prog LB w) ∧ sizedMet enc Tryz.prog Tryz.f4 (OpenSpec.ofChange Rows.decodeImageSpec) false w args) (Rows.decodeImageSpec.post enc Tryz.prog Tryz.f4 false true false false) := by
  refine law_lift_laid (C := Tryz.checked) (tb := 4) (X := fun w _ => laidMetH Tryz.prog LB w) (fun _ _ _ hh h => h.of_heap hh) Tryz.own started (by kernel_rfl) Tryz.func4
    (ChangeSpec.witness_shaped (enc := enc) (C := Tryz.checked) (os := os) (X := fun w _ => laidMetH Tryz.prog LB w) false (World.doorLaid Tryz.prog 400 os) #[.agg #[.int .u32 0, .int .i64 0, .int .i64 0, .int .i64 0], .slice none 0 0, .slice none 0 0, .bool false] 8 rfl (World.shaped_of_RefB (by kernel_rfl) (by kernel_rfl)) (by kernel_rfl) (by kernel_rfl) (by kernel_rfl) (door_metB os _)) Tryz.laidOut (by kernel_rfl) rfl rfl Tryz.underlying4 ?_ ?_
  · intro ds hds
    match ds, hds with
    | [_, _, _, _], _ => rfl
  intro W base args ds p hval0 hA0 _ _ hsz0 hX0
  have hval : ∀ (j : Nat) t v, Tryz.f4.params[j]? = some t → args[j]? = some v → Value.okWide Tryz.prog W .any base t v := hval0
  have hA : DataW.TrodAll enc Tryz.prog W 0 (fun _ => true) true Tryz.f4.params.toList args.toList ds p := hA0
  rw [Tryz.params4] at hA hval
  obtain ⟨v0, vs0, d0, ds0, p0, q0, hargs0, hds0, hps0, h0, r0⟩ := trodAll_cons hA
  obtain ⟨v1, vs1, d1, ds1, p1, q1, hargs1, hds1, hps1, h1, r1⟩ := trodAll_cons r0
  obtain ⟨v2, vs2, d2, ds2, p2, q2, hargs2, hds2, hps2, h2, r2⟩ := trodAll_cons r1
  obtain ⟨v3, vs3, d3, ds3, p3, q3, hargs3, hds3, hps3, h3, r3⟩ := trodAll_cons r2
  obtain ⟨e1, _, _⟩ := trodAll_nil r3
  obtain rfl : args = #[v0, v1, v2, v3] := by cases args; simp_all
  obtain ⟨s0, K0, L0, Z0, rfl, hps0, hpK0, hpL0, hpZ0⟩ := open_par Tryz.underlying35 ⟨rfl, rfl, rfl, rfl⟩ Tryz.underlying22 Tryz.underlying3 Tryz.underlying3 Tryz.underlying3 ⟨by kernel_rfl, by kernel_rfl, by kernel_rfl, by kernel_rfl⟩ (by kernel_rfl) (hval 0 35 v0 rfl rfl) h0
  obtain ⟨A1, n1, cap1, l1, rfl, hrow1, hnc1, hcm1⟩ := open_bytes Tryz.underlying23 Tryz.underlying5 Tryz.cells5 (hval 1 23 v1 rfl rfl) h1
  obtain ⟨A2, n2, cap2, us2, rfl, hnc2, hcm2, hus2⟩ := open_u32s Tryz.underlying36 Tryz.underlying22 (by kernel_rfl) (hval 2 36 v2 rfl rfl) h2
  obtain ⟨x3, rfl, _, _⟩ := open_bool Tryz.underlying4 (hval 3 4 v3 rfl rfl) h3
  exact Dc.dcimg_walk s0 n1 cap1 n2 cap2 x3 us2 K0 L0 Z0 A1 A2 l1 W (dtab_of_laid hX0) hps0 hrow1 ⟨hnc1, hcm1⟩ hus2

theorem decodeImage_holds : Rows.DecodeImageSaid :=
  OpenClaim.holds_of_wide 4 Tryz.f4 rfl rfl rfl rfl rfl rfl rfl ⟨rfl, rfl, rfl, rfl, rfl⟩ rfl rfl rfl rfl rfl (by kernel_rfl) Tryz.func4 (by kernel_rfl)
    (of_decide_eq_true (by kernel_rfl)) (by unfold Func.isWrapper; rw [if_neg (of_decide_eq_false (by kernel_rfl))]; exact ⟨rfl, rfl⟩)
    (fun os started H enc _ => decodeImage_lifted os started H enc)

theorem decodeImage_card : Rows.DecodeImageCardSaid :=
  Claim7.holds_tied_plain_at .later [] [.data] true _ false
    decodeImage_holds (fun _ h => by cases h) (by kernel_rfl) (fun _ h => by cases h) decodeImage_row_tie rfl ⟨rfl, rfl⟩ (by kernel_rfl) rfl
    (fun f fn hf hfn => by
      obtain rfl : f = 4 := Option.some.inj ((show Tryz.prog.funcNamed "downpour/downpourlaw12.DecodeImage" = some 4 by kernel_rfl).symm.trans hf) |>.symm
      obtain rfl : fn = Tryz.f4 := (Option.some.inj (Tryz.func4.symm.trans hfn)).symm
      exact ⟨by kernel_rfl, fun j t ht => by
        rw [Tryz.params4] at ht
        have hm : t ∈ [35, 23, 36, 4] := by simpa using Array.mem_of_getElem? ht
        have hall : ([35, 23, 36, 4].all fun u => !Tryz.prog.wantsStandIn u) = true := by kernel_rfl
        exact (show Tryz.prog.wantsStandIn t = false by simpa using List.all_eq_true.1 hall t hm)⟩)
    (by kernel_rfl)
end Go.Proofs.YtpmmolamdlcmnaaGreatDoor
