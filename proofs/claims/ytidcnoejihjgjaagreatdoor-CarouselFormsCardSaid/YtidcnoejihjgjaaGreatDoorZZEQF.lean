/- elim.From, as data: what is written is read as it was. -/
import Derived.Test.YtidcnoejihjgjaaGreatDoorZFQF
import Derived.Test.YtidcnoejihjgjaaGreatDoorZBQF
namespace Go.Proofs.YtidcnoejihjgjaaGreatDoor.El
open Go.RowKit
open VecM Vc
instance fitsDec (n : Nat) (l : List UInt8) : Decidable (fits n l) := by unfold fits; infer_instance
end Go.Proofs.YtidcnoejihjgjaaGreatDoor.El
namespace Go.Proofs.YtidcnoejihjgjaaGreatDoor.El
open Go.RowKit
open VecM Vc
abbrev Obj := World → (Nat → Prop) → Prop
def Keeps (Q : Obj) : Prop := ∀ (W W' : World) (F : Nat → Prop), Q W F → (∀ b, F b → b < W.heap.size → W'.heap[b]? = W.heap[b]?) → W.heap.size ≤ W'.heap.size → Q W' F
def Sep3 (A B C : Obj) (w0 W : World) : Prop :=
  ∃ F G H, A W F ∧ B W G ∧ C W H ∧ (∀ b, F b → G b → False) ∧ (∀ b, F b → H b → False) ∧ (∀ b, G b → H b → False) ∧ (∀ b, F b ∨ G b ∨ H b → w0.heap.size ≤ b ∧ b < W.heap.size) ∧ Below w0.heap.size w0 W
def noObj : Obj := fun _ _ => True
theorem keeps_no : Keeps noObj := fun _ _ _ _ _ _ => trivial
theorem Sep3.start (w : World) : Sep3 noObj noObj noObj w w := ⟨fun _ => False, fun _ => False, fun _ => False, trivial, trivial, trivial, fun _ h => h.elim, fun _ h => h.elim, fun _ h => h.elim, fun _ h => by rcases h with h | h | h <;> exact h.elim, Below.refl _ _⟩
theorem Sep3.rot {A B C : Obj} {w0 W : World} (h : Sep3 A B C w0 W) : Sep3 B C A w0 W := by
  obtain ⟨F, G, H, a, b, c, h1, h2, h3, h4, h5⟩ := h
  exact ⟨G, H, F, b, c, a, h3, fun q x y => h1 q y x, fun q x y => h2 q y x, fun q hq => h4 q (by rcases hq with h | h | h; exact .inr (.inl h); exact .inr (.inr h); exact .inl h), h5⟩
theorem Sep3.swap {A B C : Obj} {w0 W : World} (h : Sep3 A B C w0 W) : Sep3 B A C w0 W := by
  obtain ⟨F, G, H, a, b, c, h1, h2, h3, h4, h5⟩ := h
  exact ⟨G, F, H, b, a, c, fun q x y => h1 q y x, h3, h2, fun q hq => h4 q (by rcases hq with h | h | h; exact .inr (.inl h); exact .inl h; exact .inr (.inr h)), h5⟩
theorem Sep3.b {A B C : Obj} {w0 W : World} (h : Sep3 A B C w0 W) : Below w0.heap.size w0 W := by
  obtain ⟨F, G, H, a, b, c, h1, h2, h3, h4, h5⟩ := h
  exact h5
theorem Sep3.below {A B C : Obj} {w0 W W' : World} (h : Sep3 A B C w0 W) (kA : Keeps A) (kB : Keeps B) (kC : Keeps C) (hb : Below W.heap.size W W') : Sep3 A B C w0 W' := by
  obtain ⟨F, G, H, a, b, c, h1, h2, h3, h4, h5⟩ := h
  exact ⟨F, G, H, kA W W' F a (fun q _ hl => hb.block q hl) hb.size, kB W W' G b (fun q _ hl => hb.block q hl) hb.size, kC W W' H c (fun q _ hl => hb.block q hl) hb.size, h1, h2, h3, fun q hq => ⟨(h4 q hq).1, Nat.lt_of_lt_of_le (h4 q hq).2 hb.size⟩, h5.trans (hb.mono h5.size)⟩
theorem Sep3.first2 {A B C : Obj} {w0 w : World} (h : Sep3 A B C w0 w) (kB : Keeps B) (kC : Keeps C) :
    ∃ F, A w F ∧ (∀ b, F b → w0.heap.size ≤ b) ∧ (∀ b, F b → b < w.heap.size) ∧ ∀ (w' : World) (A' : Obj), A' w' (fun b => F b ∨ (w.heap.size ≤ b ∧ b < w'.heap.size)) → Fr w w' F → Sep3 A' B C w0 w' := by
  obtain ⟨F, G, H, a, b, c, h1, h2, h3, h4, h5⟩ := h
  refine ⟨F, a, fun q hq => (h4 q (.inl hq)).1, fun q hq => (h4 q (.inl hq)).2, fun w' A' ha hf => ⟨_, G, H, ha, kB w w' G b (fun q hq hl => hf.block q hl fun hF => h1 q hF hq) hf.size, kC w w' H c (fun q hq hl => hf.block q hl fun hF => h2 q hF hq) hf.size, ?_, ?_, h3, ?_, ?_⟩⟩
  · rintro q (hq | hq) hg
    · exact h1 q hq hg
    · have := (h4 q (.inr (.inl hg))).2; omega
  · rintro q (hq | hq) hg
    · exact h2 q hq hg
    · have := (h4 q (.inr (.inr hg))).2; omega
  · have hs := hf.size
    have hs5 := h5.size
    rintro q ((hq | hq) | hq | hq)
    · have := h4 q (.inl hq); exact ⟨this.1, by omega⟩
    · exact ⟨by omega, hq.2⟩
    · have := h4 q (.inr (.inl hq)); exact ⟨this.1, by omega⟩
    · have := h4 q (.inr (.inr hq)); exact ⟨this.1, by omega⟩
  · exact h5.trans (hf.below (fun q hq => (h4 q (.inl hq)).1) h5.size)
theorem Sep3.first {A B C : Obj} {w0 w : World} (h : Sep3 A B C w0 w) (kB : Keeps B) (kC : Keeps C) :
    ∃ F, A w F ∧ (∀ b, F b → w0.heap.size ≤ b) ∧ ∀ (w' : World) (A' : Obj), A' w' (fun b => F b ∨ (w.heap.size ≤ b ∧ b < w'.heap.size)) → Fr w w' F → Sep3 A' B C w0 w' := by
  obtain ⟨F, a, b, _, d⟩ := h.first2 kB kC
  exact ⟨F, a, b, d⟩
theorem Sep3.create {A B C : Obj} {w0 w w' : World} (h : Sep3 A B C w0 w) (kB : Keeps B) (kC : Keeps C) (hb : Below w.heap.size w w') {A' : Obj} (ha : A' w' (fun b => w.heap.size ≤ b ∧ b < w'.heap.size)) : Sep3 A' B C w0 w' := by
  obtain ⟨F, G, H, a, b, c, h1, h2, h3, h4, h5⟩ := h
  have hs := hb.size
  have hs5 := h5.size
  refine ⟨_, G, H, ha, kB w w' G b (fun q _ hl => hb.block q hl) hs, kC w w' H c (fun q _ hl => hb.block q hl) hs, ?_, ?_, h3, ?_, h5.trans (hb.mono hs5)⟩
  · rintro q hq hg
    have := (h4 q (.inr (.inl hg))).2; omega
  · rintro q hq hg
    have := (h4 q (.inr (.inr hg))).2; omega
  · rintro q (hq | hq | hq)
    · exact ⟨by omega, hq.2⟩
    · have := h4 q (.inr (.inl hq)); exact ⟨this.1, by omega⟩
    · have := h4 q (.inr (.inr hq)); exact ⟨this.1, by omega⟩
end Go.Proofs.YtidcnoejihjgjaaGreatDoor.El
