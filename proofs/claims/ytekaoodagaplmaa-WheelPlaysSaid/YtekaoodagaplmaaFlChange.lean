/- Flash: what Program and Erase change, and what they leave. -/
import Derived.Test.YtekaoodagaplmaaFlFew
namespace Go.Proofs.Ytekaoodagaplmaa
open Go.RowKit
theorem Fl.stepF_bs (f : Fl) : f.stepF.bs = f.bs := by
  unfold Fl.stepF Fl.tick; split <;> (try split) <;> rfl
theorem Fl.stepF_er (f : Fl) : f.stepF.er = f.er := by
  unfold Fl.stepF Fl.tick; split <;> (try split) <;> rfl
theorem Fl.stepF_wear (f : Fl) : f.stepF.wear = f.wear := by
  unfold Fl.stepF Fl.tick; split <;> (try split) <;> rfl
theorem prog_bits (l : List UInt8) : ∀ (f : Fl) (a i : Nat), (f.prog a l).1.bs i = f.bs i ∨ (a ≤ i ∧ i < a + l.length ∧ ∃ y, (f.prog a l).1.bs i = f.bs i &&& y) := by
  induction l with
  | nil => intro f a i; exact .inl rfl
  | cons x t ih =>
    intro f a i
    simp only [List.length_cons]
    have hput : ∀ y, (f.stepF.put a y).bs i = f.bs i ∨ (i = a ∧ (f.stepF.put a y).bs i = f.bs i &&& y) := by
      intro y
      by_cases e : i = a
      · subst e; right; exact ⟨rfl, by simp [Fl.put, Fl.stepF_bs]⟩
      · left; simp [Fl.put, e, Fl.stepF_bs]
    cases hs : f.stepB with
    | true =>
      have e : f.prog a (x :: t) = (f.stepF.put a x).prog (a + 1) t := by
        show (if f.stepB then _ else _) = _
        rw [if_pos hs]
      rw [e]
      rcases ih (f.stepF.put a x) (a + 1) i with h | ⟨h1, h2, y, h3⟩
      · rw [h]
        rcases hput x with h' | ⟨h', h''⟩
        · exact .inl h'
        · exact .inr ⟨by omega, by omega, x, h''⟩
      · right
        refine ⟨by omega, by omega, y, ?_⟩
        rcases hput x with h' | ⟨h', _⟩
        · rw [h3, h']
        · omega
    | false =>
      have e : f.prog a (x :: t) = (f.stepF.put a (x ||| UInt8.ofNat (f.torn % 256).toNat), 11) := by
        show (if f.stepB then _ else _) = _
        rw [if_neg (by rw [hs]; decide)]
      rw [e]
      rcases hput (x ||| UInt8.ofNat (f.torn % 256).toNat) with h' | ⟨h', h''⟩
      · exact .inl h'
      · exact .inr ⟨by omega, by omega, _, h''⟩
def Fl.Ok (f : Fl) (k : Int) : Prop :=
  0 ≤ f.steps ∧ f.steps ≤ k ∧ (-9223372036854775808 ≤ f.left ∧ f.left ≤ 9223372036854775807) ∧ (∀ s, 0 ≤ f.er s) ∧ f.wear ≤ 10000
theorem Fl.Ok.more {f : Fl} {k j : Int} (h : f.Ok k) (hj : k ≤ j) : f.Ok j := ⟨h.1, by have := h.2.1; omega, h.2.2⟩
theorem Fl.Ok.step {f : Fl} {k : Int} (h : f.Ok k) : f.stepF.Ok (k + 1) := by
  obtain ⟨h1, h2, h3, h4, h5⟩ := h
  exact ⟨by rw [Fl.stepF_steps]; omega, by rw [Fl.stepF_steps]; omega, Fl.stepF_left f h3, by rw [Fl.stepF_er]; exact h4, by rw [Fl.stepF_wear]; exact h5⟩
theorem Fl.Ok.put {f : Fl} {k : Int} (h : f.Ok k) (a : Nat) (x : UInt8) : (f.put a x).Ok k := h
theorem Fl.Ok.fill {f : Fl} {k : Int} (h : f.Ok k) (a n : Nat) : (f.fill a n).Ok k := h
theorem Fl.Ok.prog (l : List UInt8) : ∀ {f : Fl} {k : Int} (_ : f.Ok k) (a : Nat), (f.prog a l).1.Ok (k + l.length) := by
  induction l with
  | nil => intro f k h a; exact h.more (by simp)
  | cons x t ih =>
    intro f k h a
    simp only [List.length_cons]
    cases hs : f.stepB with
    | true =>
      have e : f.prog a (x :: t) = (f.stepF.put a x).prog (a + 1) t := by
        show (if f.stepB then _ else _) = _
        rw [if_pos hs]
      rw [e]
      exact (ih (h.step.put a x) (a + 1)).more (by push_cast; omega)
    | false =>
      have e : f.prog a (x :: t) = (f.stepF.put a (x ||| UInt8.ofNat (f.torn % 256).toNat), 11) := by
        show (if f.stepB then _ else _) = _
        rw [if_neg (by rw [hs]; decide)]
      rw [e]
      exact (h.step.put a _).more (by push_cast; omega)
theorem Fl.Ok.wearUp {f : Fl} {k : Int} (h : f.Ok k) (s : Nat) : (f.wearUp s).Ok k := by
  obtain ⟨h1, h2, h3, h4, h5⟩ := h
  refine ⟨h1, h2, h3, fun i => ?_, h5⟩
  show 0 ≤ if i = s then f.er s + 1 else f.er i
  have := h4 s
  split
  · omega
  · exact h4 i
theorem Fl.Ok.erase {f : Fl} {k : Int} (h : f.Ok k) (s : Nat) : (f.erase s).1.Ok (k + 1) := by
  unfold Fl.erase
  split
  · exact h.more (by omega)
  · split
    · exact ((h.wearUp s).step).fill _ _
    · exact ((h.wearUp s).step).fill _ _
theorem erase_bits (f : Fl) (s i : Nat) : (f.erase s).1.bs i = f.bs i ∨ (i / 256 = s ∧ (f.erase s).1.bs i = 255) := by
  have key : ∀ n, n ≤ 256 → ((f.wearUp s).stepF.fill (256 * s) n).bs i = f.bs i ∨ (i / 256 = s ∧ ((f.wearUp s).stepF.fill (256 * s) n).bs i = 255) := by
    intro n hn
    have e : (f.wearUp s).stepF.bs = f.bs := by rw [Fl.stepF_bs]; rfl
    unfold Fl.fill
    dsimp only
    by_cases h : 256 * s ≤ i ∧ i < 256 * s + n
    · rw [if_pos h]; exact .inr ⟨by omega, rfl⟩
    · rw [if_neg h, e]; exact .inl rfl
  unfold Fl.erase
  split
  · exact .inl rfl
  · split
    · exact key 256 (by omega)
    · exact key _ f.tornN_le
/-- what a call d may change where sector s is meant -/
def Chg (d : Int) (s : Nat) (f f' : Fl) : Prop :=
  ∀ i, i < 3584 → f'.bs i = f.bs i ∨ (f.down = false ∧ i / 256 = s ∧ ((d = 1 ∧ ∃ y, f'.bs i = f.bs i &&& y) ∨ (d = 2 ∧ f'.bs i = 255)))
theorem Chg.same (d : Int) (s : Nat) (f : Fl) {f' : Fl} (h : f'.bs = f.bs) : Chg d s f f' := fun i _ => .inl (by rw [h])
def ChgOk (g : Nat) (d : Int) (s : Nat) (k : Int) (f : Fl) (w : World) (e : Ending) (w' : World) : Prop :=
  ∃ r : Int, ∃ f' : Fl, e = .returned (.int .i64 r) ∧ Hid (Done g f' w w') ∧ Hid (Chg d s f f') ∧ Hid (f'.Ok k)
theorem prog_chg (g a n cap B : Nat) (A : Option Addr) (l : List UInt8) (f : Fl) (w : World) (k : Int) (hf : FlAt w g f) (hl : Row w B A n (bv l)) (hA : 0 < n → ∀ b o, A = some ⟨b, o, none⟩ → b ≠ g) (hB : B ≤ w.heap.size)
    (ha : a + n ≤ 256 * (a / 256) + 256) (ha2 : a < 3584) (hok : f.Ok k) (hk : k ≤ 1000000) (hn : n ≤ 301) :
    Calls Try.prog 51 #[.pointer (some ⟨g, 0, none⟩), .int .i64 (a : Int), .slice A n cap] w (ChgOk g 1 (a / 256) (k + 301) f w) := by
  cases hd : f.down with
  | true =>
    have hm : mayE f a n = 11 := by unfold mayE; rw [hd]; rfl
    refine (prog_bad _ a 11 n cap A w (may_any g f a n 11 w hf (by omega) hm) (by decide)).mono ?_
    rintro e w' ⟨rfl, rfl⟩
    exact ⟨11, f, rfl, ⟨hf, ⟨rfl, rfl, rfl, Nat.le_refl _, fun _ _ _ => rfl⟩⟩, Chg.same _ _ _ rfl, hok.more (by omega)⟩
  | false =>
    refine (prog_ok g a B n cap A l f w hf hl hA hB hd (by omega) (by have := hok.1; omega) (by have := hok.2.1; omega) hok.2.2.1).mono ?_
    rintro e w' ⟨rfl, hdn⟩
    refine ⟨_, _, rfl, hdn, fun i hi => ?_, (hok.prog l a).more (by have := hl.blen; omega)⟩
    rcases prog_bits l f a i with h | ⟨h1, h2, y, h3⟩
    · exact .inl h
    · have := hl.blen
      exact .inr ⟨hd, by omega, .inl ⟨rfl, y, h3⟩⟩
theorem erase_chg (g s : Nat) (si : Int) (hsi : si = (s : Int)) (f : Fl) (w : World) (k : Int) (hf : FlAt w g f) (hs : s < 14) (hok : f.Ok k) (hk : k ≤ 1000000) :
    Calls Try.prog 48 #[.pointer (some ⟨g, 0, none⟩), .int .i64 si] w (ChgOk g 2 s (k + 301) f w) := by
  subst hsi
  cases hd : f.down with
  | true =>
    refine (erase_down g s f w hf hd).mono ?_
    rintro e w' ⟨rfl, rfl⟩
    exact ⟨11, f, rfl, ⟨hf, ⟨rfl, rfl, rfl, Nat.le_refl _, fun _ _ _ => rfl⟩⟩, Chg.same _ _ _ rfl, hok.more (by omega)⟩
  | false =>
    refine (erase_ok g s f w hf hd hs (hok.2.2.2.1 s) (by have := hok.2.2.2.2; omega) (by have := hok.1; omega) (by have := hok.2.1; omega) hok.2.2.1.2).mono ?_
    rintro e w' ⟨rfl, hdn⟩
    refine ⟨_, _, rfl, hdn, fun i hi => ?_, (hok.erase s).more (by omega)⟩
    rcases erase_bits f s i with h | ⟨h1, h2⟩
    · exact .inl h
    · exact .inr ⟨hd, h1, .inr ⟨rfl, h2⟩⟩
end Go.Proofs.Ytekaoodagaplmaa
