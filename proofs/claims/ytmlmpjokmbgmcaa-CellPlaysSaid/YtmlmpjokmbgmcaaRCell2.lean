/- The reference's newest, Peek, ReadCell: by contracts. -/
import Derived.Test.YtmlmpjokmbgmcaaRCell
import Derived.Test.YtmlmpjokmbgmcaaRFl5
namespace Go.Proofs.Ytmlmpjokmbgmcaa
open Go.RowKit
theorem row_lit (w : World) (xs : List Value) (t : TypeId) : Row (w.alloc (.cells xs.toArray t)) (w.alloc (.cells xs.toArray t)).heap.size (some ⟨w.heap.size, 0, none⟩) xs.length xs :=
  ⟨rfl, fun _ => ⟨_, 0, rfl, by simp, fun j u hu => by rw [cell_of_row _ w.heap.size (0 + j) _ _ (0, 0) (heap_alloc_new _ _)]; simpa using hu⟩⟩
/-- what newest tells: which copy, its number, its bytes -/
def NewIs (f : Fl) (base : Nat) (W : World) (c : Int) (num : Nat) (A : Option Addr) (n cp : Nat) : Prop :=
  (¬ partOk (P0 f) ∧ ¬ partOk (P1 f) ∧ c = -1 ∧ num = 0 ∧ A = none ∧ n = 0 ∧ cp = 0) ∨
  (∃ D s, CellHas f D ∧ WrTo f s (num + 1) ∧ (s = 0 ∧ c = 1 ∨ s = 1 ∧ c = 0) ∧ num < 4294967296 ∧ n = D.length ∧ n ≤ 245 ∧ n ≤ cp ∧ cp ≤ 9223372036854775807 ∧ Row W W.heap.size A n (bv D) ∧ ∀ g o, A = some ⟨g, o, none⟩ → 0 < n → base ≤ g)
theorem NewIs.below {f : Fl} {base : Nat} {W W' : World} {c : Int} {num : Nat} {A : Option Addr} {n cp : Nat} (h : NewIs f base W c num A n cp) (hb : Below W.heap.size W W') : NewIs f base W' c num A n cp := by
  rcases h with h | ⟨D, s, h1, h2, h3, h4, h5, h6, h7, h8, h9, h10⟩
  · exact .inl h
  · exact .inr ⟨D, s, h1, h2, h3, h4, h5, h6, h7, h8, (h9.below hb).more hb.size, h10⟩
def RNewestOk (f : Fl) (w : World) (e : Ending) (w' : World) : Prop :=
  ∃ c num A n cp, e = .returned (.tuple #[.int .i64 c, .int .u32 (num : Nat), .slice A n cp]) ∧ Hid (NewIs f w.heap.size w' c num A n cp) ∧ Hid (Below w.heap.size w w')
theorem new_one {f : Fl} {base : Nat} {W : World} {num : Nat} {A : Option Addr} {n c : Nat} (h : PartIs (P1 f) base W true num A n c) (h0 : ¬ partOk (P0 f) ∨ partN (P0 f) < num) : NewIs f base W 1 num A n c := by
  have hp : partOk (P1 f) := by rcases h with ⟨h, _⟩ | ⟨_, h, _⟩; exact h; cases h
  obtain ⟨-, e1, e2, e3, e4, e5, e6⟩ := h.yes hp
  subst e1
  exact .inr ⟨partD (P1 f), 0, .inl ⟨hp, h0, rfl⟩, .inr (.inl ⟨hp, h0, rfl, rfl⟩), .inl ⟨rfl, rfl⟩, partN_lt _, e2.trans (partD_length (Fl.sub_length _ _ _) hp).symm, by rw [e2]; exact hp.1, e3, e4, e5, e6⟩
theorem new_zero {f : Fl} {base : Nat} {W : World} {num : Nat} {A : Option Addr} {n c : Nat} (h : PartIs (P0 f) base W true num A n c) (h0 : ¬ partOk (P1 f) ∨ partN (P1 f) ≤ num) : NewIs f base W 0 num A n c := by
  have hp : partOk (P0 f) := by rcases h with ⟨h, _⟩ | ⟨_, h, _⟩; exact h; cases h
  obtain ⟨-, e1, e2, e3, e4, e5, e6⟩ := h.yes hp
  subst e1
  exact .inr ⟨partD (P0 f), 1, .inr ⟨hp, h0, rfl⟩, .inr (.inr ⟨hp, h0, rfl, rfl⟩), .inr ⟨rfl, rfl⟩, partN_lt _, e2.trans (partD_length (Fl.sub_length _ _ _) hp).symm, by rw [e2]; exact hp.1, e3, e4, e5, e6⟩
theorem PartIs.tf {b : List UInt8} {base : Nat} {W : World} {wh : Bool} {num : Nat} {A : Option Addr} {n c : Nat} (h : PartIs b base W wh num A n c) : (wh = true ∧ partOk b ∧ num = partN b) ∨ (wh = false ∧ ¬ partOk b) := by
  rcases h with ⟨h1, h2, h3, _⟩ | ⟨h1, h2, _⟩
  · exact .inl ⟨h2, h1, h3⟩
  · exact .inr ⟨h2, h1⟩
set_option maxRecDepth 100000 in
set_option maxHeartbeats 3200000 in
theorem rnewest_any (gB : Nat) (f : Fl) (w : World) (hf : RBody w gB f) :
    Calls Try.prog 47 #[.slice (some ⟨gB, 0, none⟩) 3584 3584] w (RNewestOk f w) := by
  have H0 := Lib.hid (rcopy_0 gB f w hf)
  have H1 := Lib.hid (fun W (hW : RBody W gB f) => rcopy_1 gB f W hW)
  have HF := Lib.hid hf
  have HLT := Lib.hid hf.lt
  clear hf
  go_enter Try.func47, Try.ntmps47
  go_wp2_with fail
  refine H0.out.mono ?_
  rintro e w1 ⟨o0, n0, A0, m0, c0, rfl, hp0, hb1⟩
  have HF1 := Lib.hid (HF.out.keep (hb1.out.block gB HLT.out))
  go_wp2_with fail
  refine (H1.out w1 HF1.out).mono ?_
  rintro e w2 ⟨o1, n1, A1, m1, c1, rfl, hp1, hb2⟩
  have HB : Hid (Below w.heap.size w w2) := hb1.out.trans (hb2.out.mono hb1.out.size)
  have HP0 : Hid (PartIs (P0 f) w.heap.size w2 o0 n0 A0 m0 c0) := hp0.out.below hb2.out
  have HP1 : Hid (PartIs (P1 f) w.heap.size w2 o1 n1 A1 m1 c1) := hp1.out.more hb1.out.size
  clear hp0 hp1 hb1 hb2 H0 H1 HF HF1 HLT
  rcases HP0.out.tf with ⟨rfl, k0, k0n⟩ | ⟨rfl, k0⟩
  · rcases HP1.out.tf with ⟨rfl, k1, k1n⟩ | ⟨rfl, k1⟩
    · by_cases hlt : n1 ≤ n0
      · have hg : ((n1 : Int) ≤ (n0 : Int)) := by omega
        have HN := Lib.hid (new_zero HP0.out (.inr (by rw [← k1n]; exact hlt)))
        clear k0 k0n k1 k1n HP0 HP1
        go_wp2_with fail
        go_ret3
        exact ⟨0, n0, A0, m0, c0, rfl, HN, HB⟩
      · have hg : ¬ ((n1 : Int) ≤ (n0 : Int)) := by omega
        have HN := Lib.hid (new_one HP1.out (.inr (by rw [← k0n]; omega)))
        clear k0 k0n k1 k1n HP0 HP1
        go_wp2_with fail
        go_ret3
        exact ⟨1, n1, A1, m1, c1, rfl, HN, HB⟩
    · have HN := Lib.hid (new_zero HP0.out (.inl k1))
      clear k0 k0n k1 HP0 HP1
      go_wp2_with fail
      go_ret3
      exact ⟨0, n0, A0, m0, c0, rfl, HN, HB⟩
  · rcases HP1.out.tf with ⟨rfl, k1, k1n⟩ | ⟨rfl, k1⟩
    · have HN := Lib.hid (new_one HP1.out (.inl k0))
      clear k0 k1 k1n HP0 HP1
      go_wp2_with fail
      go_ret3
      exact ⟨1, n1, A1, m1, c1, rfl, HN, HB⟩
    · have HN : Hid (NewIs f w.heap.size w2 (-1) 0 none 0 0) := .inl ⟨k0, k1, rfl, rfl, rfl, rfl, rfl⟩
      clear k0 k1 HP0 HP1
      go_wp2_with fail
      go_ret3
      exact ⟨-1, 0, none, 0, 0, rfl, HN, HB⟩
/-- what a cell's reading is: its bytes, or none -/
def RdIs (f : Fl) (d : List UInt8) (k : Int) : Prop := (f.down = true ∧ d = [] ∧ k = 11) ∨ (f.down = false ∧ ((¬ partOk (P0 f) ∧ ¬ partOk (P1 f) ∧ d = [] ∧ k = 14) ∨ (CellHas f d ∧ k = 0)))
def RBytesK (d : List UInt8) (k : Int) (w : World) (e : Ending) (w' : World) : Prop :=
  ∃ A n c, e = .returned (.tuple #[.slice A n c, .int .i64 k]) ∧ Hid (n = d.length) ∧ Hid (Row w' w'.heap.size A n (bv d)) ∧ Hid (Below w.heap.size w w')
theorem has_uniq {f : Fl} {a b : List UInt8} (h : CellHas f a) (h2 : CellHas f b) : a = b := by
  rcases h with ⟨p1, p0, e⟩ | ⟨p1, p0, e⟩ <;> rcases h2 with ⟨q1, q0, e2⟩ | ⟨q1, q0, e2⟩
  · rw [e, e2]
  · rcases p0 with p0 | p0
    · exact absurd q1 p0
    · rcases q0 with q0 | q0
      · exact absurd p1 q0
      · omega
  · rcases p0 with p0 | p0
    · exact absurd q1 p0
    · rcases q0 with q0 | q0
      · exact absurd p1 q0
      · omega
  · rw [e, e2]
theorem has_no {f : Fl} {a : List UInt8} (h : CellHas f a) (h0 : ¬ partOk (P0 f)) (h1 : ¬ partOk (P1 f)) : False := by
  rcases h with ⟨h, _⟩ | ⟨h, _⟩
  · exact h1 h
  · exact h0 h
theorem rd_is (f : Fl) : ∃ d k, RdIs f d k ∧ d.length ≤ 245 := by
  cases hd : f.down with
  | true => exact ⟨[], 11, .inl ⟨hd, rfl, rfl⟩, by simp⟩
  | false =>
    by_cases h1 : partOk (P1 f) <;> by_cases h0 : partOk (P0 f)
    · by_cases hl : partN (P0 f) < partN (P1 f)
      · exact ⟨_, 0, .inr ⟨hd, .inr ⟨.inl ⟨h1, .inr hl, rfl⟩, rfl⟩⟩, Nat.le_trans (Nat.le_of_eq (partD_length (Fl.sub_length _ _ _) h1)) h1.1⟩
      · exact ⟨_, 0, .inr ⟨hd, .inr ⟨.inr ⟨h0, .inr (by omega), rfl⟩, rfl⟩⟩, Nat.le_trans (Nat.le_of_eq (partD_length (Fl.sub_length _ _ _) h0)) h0.1⟩
    · exact ⟨_, 0, .inr ⟨hd, .inr ⟨.inl ⟨h1, .inl h0, rfl⟩, rfl⟩⟩, Nat.le_trans (Nat.le_of_eq (partD_length (Fl.sub_length _ _ _) h1)) h1.1⟩
    · exact ⟨_, 0, .inr ⟨hd, .inr ⟨.inr ⟨h0, .inl h1, rfl⟩, rfl⟩⟩, Nat.le_trans (Nat.le_of_eq (partD_length (Fl.sub_length _ _ _) h0)) h0.1⟩
    · exact ⟨[], 14, .inr ⟨hd, .inl ⟨h0, h1, rfl, rfl⟩⟩, by simp⟩
set_option maxRecDepth 100000 in
set_option maxHeartbeats 3200000 in
theorem rpeek_any (gm gB : Nat) (f : Fl) (d : List UInt8) (k : Int) (w : World) (hf : RfAt w gm gB f) (hd : f.down = false) (hk : RdIs f d k) :
    Calls Try.prog 45 #[.pointer (some ⟨gm, 0, none⟩)] w (RBytesK d k w) := by
  have h0 := hf.slot0
  have HN := Lib.hid (rnewest_any gB f w hf.2.1)
  have HK : Hid ((¬ partOk (P0 f) ∧ ¬ partOk (P1 f) ∧ d = [] ∧ k = 14) ∨ (CellHas f d ∧ k = 0)) := by
    rcases hk with ⟨h, _⟩ | ⟨_, h⟩
    · rw [hd] at h; cases h
    · exact h
  clear hf hk hd
  go_enter Try.func45, Try.ntmps45
  go_wp2_with fail
  refine HN.out.mono ?_
  rintro e w1 ⟨c, num, A, n, cp, rfl, hn, hb⟩
  clear HN h0
  rcases hn.out with ⟨p0, p1, rfl, rfl, rfl, rfl, rfl⟩ | ⟨D, s, h1, h2, h3, h4, h5, h6, h7, h8, h9, h10⟩
  · have HD : Hid (d = [] ∧ k = 14) := by
      rcases HK.out with ⟨_, _, h⟩ | ⟨h, _⟩
      · exact h
      · exact (has_no h p0 p1).elim
    obtain ⟨rfl, rfl⟩ := HD.out
    clear p0 p1 HK hn HD
    go_wp2_with fail
    go_ret2
    exact ⟨none, 0, 0, rfl, rfl, Row.nil _ _ _, hb⟩
  · have HD : Hid (d = D ∧ k = 0) := by
      rcases HK.out with ⟨p0, p1, _⟩ | ⟨h, e⟩
      · exact (has_no h1 p0 p1).elim
      · exact ⟨has_uniq h h1, e⟩
    obtain ⟨rfl, rfl⟩ := HD.out
    have hc : 0 ≤ c := by rcases h3 with ⟨_, h⟩ | ⟨_, h⟩ <;> omega
    have hcn : decide (c < 0) = false := by simp; omega
    obtain ⟨W1, hW1⟩ : ∃ W1, w1.alloc (.cells #[.slice A n cp] 27) = W1 := ⟨_, rfl⟩
    have hbw : Below w1.heap.size w1 W1 := by rw [← hW1]; exact (Below.refl _ _).alloc (Nat.le_refl _) _
    have HR2 : Hid (Rows2 W1 W1.heap.size (some ⟨w1.heap.size, 0, none⟩) 1 [⟨A, n, cp, d⟩]) := by
      refine ⟨?_, fun r hr => ?_⟩
      · rw [← hW1]
        exact row_lit w1 [.slice A n cp] _
      · simp only [List.mem_singleton] at hr
        subst hr
        exact (h9.below hbw).more hbw.size
    have hfl : flat [(⟨A, n, cp, d⟩ : BRow)] = d := by simp [flat]
    have HJ := Lib.hid (join_any W1.heap.size 1 1 _ _ W1 HR2.out (by omega) (by rw [hfl, ← h5]; omega) (Nat.le_refl _))
    rw [hfl] at HJ
    have HW1 := Lib.hid hW1
    have HB1 : Hid (Below w.heap.size w W1) := hb.out.trans (hbw.mono hb.out.size)
    clear h1 h2 h3 h4 h5 h6 h7 h8 h9 h10 HK hn HD hb hbw hW1 HR2 hfl
    go_wp2_with fail
    rw [HW1.out]
    refine HJ.out.mono ?_
    rintro e w3 ⟨A3, n3, c3, rfl, hn3, hown3, hb3⟩
    have HRW := Lib.hid (Row.of_own hown3)
    have HB3 : Hid (Below w.heap.size w w3) := HB1.out.trans (hb3.mono HB1.out.size)
    have HN3 := Lib.hid hn3
    clear hn3 hown3 hb3
    go_wp2_with fail
    go_ret2
    exact ⟨A3, n3, c3, rfl, HN3, HRW, HB3⟩
set_option maxRecDepth 100000 in
theorem rcread_any (gm gB : Nat) (f : Fl) (d : List UInt8) (k : Int) (w : World) (hf : RfAt w gm gB f) (hk : RdIs f d k) :
    Calls Try.prog 18 #[.pointer (some ⟨gm, 0, none⟩)] w (RBytesK d k w) := by
  have h0 := hf.off
  cases hd : f.down with
  | true =>
    have HD : Hid (d = [] ∧ k = 11) := by
      rcases hk with ⟨_, h⟩ | ⟨h, _⟩
      · exact h
      · rw [hd] at h; cases h
    obtain ⟨rfl, rfl⟩ := HD.out
    rw [hd] at h0
    clear hf hk HD
    go_enter Try.func18, Try.ntmps18
    go_wp2_with fail
    go_ret2
    exact ⟨none, 0, 0, rfl, rfl, Row.nil _ _ _, Below.refl _ _⟩
  | false =>
    have HP := Lib.hid (rpeek_any gm gB f d k w hf hd hk)
    rw [hd] at h0
    clear hf hk
    go_enter Try.func18, Try.ntmps18
    go_wp2_with fail
    refine HP.out.mono ?_
    rintro e w3 ⟨A3, n3, c3, rfl, hn3, hr3, hb3⟩
    go_wp2_with fail
    go_ret2
    exact ⟨A3, n3, c3, rfl, hn3, hr3, hb3⟩
end Go.Proofs.Ytmlmpjokmbgmcaa
