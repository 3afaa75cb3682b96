/- Cell: what it holds, from write to write. -/
import Derived.Test.YtekaoodagaplmaaCellRW
namespace Go.Proofs.Ytekaoodagaplmaa
open Go.RowKit
/-- part i holds b under the number N, the other part nothing newer -/
def Cur (f : Fl) (i N : Nat) (b : List UInt8) : Prop :=
  i ≤ 1 ∧ SecOk (f.sec i) N b ∧ (Dead (f.sec (1 - i)) ∨ Hurt (f.sec (1 - i)) ∨ ∃ M c, M < N ∧ SecOk (f.sec (1 - i)) M c)
theorem sec_P0 (f : Fl) : sl (f.sec 0) = P0 f := sl_sec f 0
theorem sec_P1 (f : Fl) : sl (f.sec 1) = P1 f := sl_sec f 1
theorem Cur.or {f : Fl} {i N : Nat} {b : List UInt8} (h : Cur f i N b) : ¬ partOk (sl (f.sec (1 - i))) ∨ partN (sl (f.sec (1 - i))) < N := by
  rcases h.2.2 with h | h | ⟨M, c, h1, h2⟩
  · exact .inl h.no
  · exact .inl h.no
  · right; rw [h2.ok.2.1]; exact h1
theorem Cur.wr {f : Fl} {i N : Nat} {b : List UInt8} (h : Cur f i N b) : WrTo f (1 - i) (N + 1) := by
  have ho := h.or
  obtain ⟨h1, h2, _⟩ := h
  obtain ⟨q1, q2, q3, _⟩ := h2.ok
  rcases (show i = 0 ∨ i = 1 by omega) with rfl | rfl
  · rw [sec_P0] at q1 q2 q3
    rw [show 1 - 0 = 1 from rfl, sec_P1] at ho
    exact .inr (.inr ⟨q1, ho.imp id (fun h => by omega), rfl, by rw [q2]⟩)
  · rw [sec_P1] at q1 q2 q3
    rw [show 1 - 1 = 0 from rfl, sec_P0] at ho
    exact .inr (.inl ⟨q1, ho.imp id (fun h => by omega), rfl, by rw [q2]⟩)
theorem Cur.has {f : Fl} {i N : Nat} {b : List UInt8} (h : Cur f i N b) : CellHas f b := by
  have ho := h.or
  obtain ⟨h1, h2, _⟩ := h
  obtain ⟨q1, q2, q3, _⟩ := h2.ok
  rcases (show i = 0 ∨ i = 1 by omega) with rfl | rfl
  · rw [sec_P0] at q1 q2 q3
    rw [show 1 - 0 = 1 from rfl, sec_P1] at ho
    exact .inr ⟨q1, ho.imp id (fun h => by omega), q3.symm⟩
  · rw [sec_P1] at q1 q2 q3
    rw [show 1 - 1 = 0 from rfl, sec_P0] at ho
    exact .inl ⟨q1, ho.imp id (fun h => by omega), q3.symm⟩
/-- both parts are none -/
def Void (f : Fl) : Prop := (Dead (f.sec 0) ∨ Hurt (f.sec 0)) ∧ (Dead (f.sec 1) ∨ Hurt (f.sec 1))
theorem Void.no {f : Fl} (h : Void f) : ¬ partOk (P0 f) ∧ ¬ partOk (P1 f) := by
  rw [← sec_P0, ← sec_P1]
  exact ⟨h.1.elim Dead.no Hurt.no, h.2.elim Dead.no Hurt.no⟩
theorem Void.wr {f : Fl} (h : Void f) : WrTo f 0 1 := .inl ⟨h.no.1, h.no.2, rfl, rfl⟩
theorem sec_congr {f f' : Fl} (s : Nat) (h : f'.bs = f.bs) : f'.sec s = f.sec s := by unfold Fl.sec; rw [h]
theorem Cur.congr {f f' : Fl} {i N : Nat} {b : List UInt8} (h : Cur f i N b) (e : f'.bs = f.bs) : Cur f' i N b := by
  unfold Cur
  rw [sec_congr _ e, sec_congr _ e]; exact h
/-- what a write leaves -/
structure Wrote (f : Fl) (i N : Nat) (b : List UInt8) (s M : Nat) (c : List UInt8) (r : Int) (f' : Fl) : Prop where
  oth : others f f' s
  er : f'.er = erUp f.er s
  wear : f'.wear = f.wear
  yes : r = 0 → Cur f' s M c ∧ f'.down = f.down ∧ f'.steps = f.steps + 1 + c.length + 11 ∧ (f.there = false → f'.there = false)
  no : r ≠ 0 → r = 11 ∧ f.there = true ∧ f'.there = false ∧ f'.down = true ∧ (Cur f' i N b ∨ Cur f' s M c)
theorem Cur.put {f : Fl} {i N : Nat} {b c : List UInt8} (h : Cur f i N b) (hw : f.er (1 - i) < f.wear) (hc : c.length ≤ 245) (hN : N + 1 < 16777216) :
    Wrote f i N b (1 - i) (N + 1) c (f.putC (1 - i) (N + 1) c).2 (f.putC (1 - i) (N + 1) c).1 := by
  obtain ⟨h1, h2, h3⟩ := h
  have hi : 1 - (1 - i) = i := by omega
  have hii : i ≠ 1 - i := by omega
  rcases putC_cases f (1 - i) (N + 1) c hw hc with ⟨f', e, q1, q2, q3, q4, q5, q6, q7⟩ | ⟨q0, f', e, q1, q2, q3, q4, q5, q6⟩
  · rw [e]
    refine ⟨q2, q3, q4, fun _ => ⟨⟨by omega, ?_, ?_⟩, q6, q5, q7⟩, fun h => absurd rfl h⟩
    · rw [q1]; exact whole_any _ _ hN hc
    · rw [hi, q2.sec i hii]; exact .inr (.inr ⟨N, b, by omega, h2⟩)
  · rw [e]
    refine ⟨q2, q3, q4, (fun h => absurd h (show ¬ (11 : Int) = 0 by decide)), fun _ => ⟨rfl, q0, q6, q5, ?_⟩⟩
    have h2' : SecOk (f'.sec i) N b := by rw [q2.sec i hii]; exact h2
    rcases q1 with ⟨t, _, q1⟩ | ⟨k, tb, hk, q1⟩
    · left
      refine ⟨h1, h2', ?_⟩
      rw [q1]
      rcases h3 with h3 | h3 | ⟨M, d, h3, h4⟩
      · exact .inl (h3.torn t)
      · rcases h3.torn t with h | h
        · exact .inr (.inl h)
        · exact .inl h
      · rcases h4.torn t with h | h | h
        · exact .inr (.inr ⟨M, d, h3, h⟩)
        · exact .inr (.inl h)
        · exact .inl h
    · rcases tornP_any (N + 1) c k tb hN hc hk with h | h
      · right
        refine ⟨by omega, by rw [q1]; exact h, ?_⟩
        rw [hi]
        exact .inr (.inr ⟨N, b, by omega, h2'⟩)
      · left
        exact ⟨h1, h2', by rw [q1]; exact .inl h⟩
theorem Void.put {f : Fl} {c : List UInt8} (h : Void f) (hw : f.er 0 < f.wear) (hc : c.length ≤ 245) (ht : f.there = false) :
    Wrote f 0 0 [] 0 1 c (f.putC 0 1 c).2 (f.putC 0 1 c).1 ∧ (f.putC 0 1 c).2 = 0 := by
  rcases putC_cases f 0 1 c hw hc with ⟨f', e, q1, q2, q3, q4, q5, q6, q7⟩ | ⟨q0, _⟩
  · rw [e]
    refine ⟨⟨q2, q3, q4, fun _ => ⟨⟨by omega, ?_, ?_⟩, q6, q5, q7⟩, fun h => absurd rfl h⟩, rfl⟩
    · rw [q1]; exact whole_any _ _ (by omega) hc
    · rw [q2.sec 1 (by omega)]
      exact h.2.elim .inl (fun h => .inr (.inl h))
  · rw [ht] at q0; cases q0
theorem Fl.Ok.putC {f : Fl} {k : Int} (h : f.Ok k) (s n : Nat) (b : List UInt8) (hb : b.length ≤ 245) : (f.putC s n b).1.Ok (k + 300) := by
  unfold Fl.putC
  split
  · exact ((h.erase s).prog (msgz n b) (256 * s)).more (by rw [msgz_length]; omega)
  · exact (h.erase s).more (by omega)
section
variable {g B m cap i N : Nat} {A : Option Addr} {b c : List UInt8} {f : Fl} {w : World} {k : Int}
def CwOk (g : Nat) (f : Fl) (i N : Nat) (b : List UInt8) (s M : Nat) (c : List UInt8) (k : Int) (w : World) (e : Ending) (w' : World) : Prop :=
  ∃ r f', e = .returned (.int .i64 r) ∧ Hid (Done g f' w w') ∧ Hid (Wrote f i N b s M c r f') ∧ Hid (f'.Ok (k + 300))
end
theorem new_void (x : Int) : Void ((flNew x).fill 0 3584) := by
  have h : ∀ s, s < 14 → ∀ i, i < 256 → ((flNew x).fill 0 3584).sec s i = 255 := by
    intro s hs i hi
    unfold Fl.sec
    rw [if_pos hi]
    show (if 0 ≤ 256 * s + i ∧ 256 * s + i < 0 + 3584 then 255 else _) = _
    exact if_pos (by omega)
  exact ⟨.inl (dead_blank (h 0 (by omega))), .inl (dead_blank (h 1 (by omega)))⟩
theorem new_ok (x : Int) (h : x ≤ 10000) : ((flNew x).fill 0 3584).Ok 0 := ⟨Int.le_refl 0, Int.le_refl 0, by show _ ≤ (0 : Int) ∧ (0 : Int) ≤ _; decide, fun s => Int.le_refl 0, h⟩
end Go.Proofs.Ytekaoodagaplmaa
