/- A decoder that heard these symbols: plain mathematics. -/
import Derived.Test.YtidcnoejihjgjaaGreatDoorDcMathQF
import Derived.Test.YtidcnoejihjgjaaGreatDoorZNQF
namespace Go.Proofs.YtidcnoejihjgjaaGreatDoor.Dc
open Go.RowKit
open VecM RdM Vc Sp Pc El Cd
def matF (s K P Z : Nat) (img : List UInt8) (f : Nat → Nat) : Nat → Mx
  | 0 => matR s K P Z P
  | i + 1 => (addMx (K + P) (matF s K P Z img f i) (spX s K P (f i)) (symX s K P Z img (f i))).1
theorem matF_got {s K P Z : Nat} {img : List UInt8} (f : Nat → Nat) (hK : 1 ≤ K) (hn : K + P ≤ 80) : ∀ i, Got (K + P) Z (matF s K P Z img f i) (fun X => parP s K P X ∨ ∃ j, j < i ∧ X = spX s K P (f j))
  | 0 => (matR_got hn P (Nat.le_refl _)).congr fun X => ⟨.inl, fun h => h.elim id fun ⟨j, hj, _⟩ => absurd hj (Nat.not_lt_zero j)⟩
  | i + 1 => by
    refine ((matF_got f hK hn i).add (by omega) (spX_lt (s := s) (id := f i)) (l := symX s K P Z img (f i)) (symX_length hK hn)).congr fun X => ⟨?_, ?_⟩
    · rintro ((h | ⟨j, hj, e⟩) | e)
      · exact .inl h
      · exact .inr ⟨j, by omega, e⟩
      · exact .inr ⟨i, by omega, e⟩
    · rintro (h | ⟨j, hj, e⟩)
      · exact .inl (.inl h)
      · by_cases h : j < i
        · exact .inl (.inr ⟨j, h, e⟩)
        · exact .inr (by rw [e, show j = i by omega])
theorem matF_step {s K P Z : Nat} {img : List UInt8} (f : Nat → Nat) (hK : 1 ≤ K) (hn : K + P ≤ 80) (i : Nat) : rankM (matF s K P Z img f (i + 1)) = rankM (matF s K P Z img f i) + if (addMx (K + P) (matF s K P Z img f i) (spX s K P (f i)) (symX s K P Z img (f i))).2 then 1 else 0 :=
  rank_add (matF_got f hK hn i).inv (by omega) (spX_lt (s := s) (id := f i)) (symX_length hK hn)
theorem matF_ge {s K P Z : Nat} {img : List UInt8} (f : Nat → Nat) (hK : 1 ≤ K) (hn : K + P ≤ 80) : ∀ i, P ≤ rankM (matF s K P Z img f i)
  | 0 => by show P ≤ rankM (matR s K P Z P); rw [matR_rank hn P (Nat.le_refl _)]; exact Nat.le_refl _
  | i + 1 => by rw [matF_step f hK hn i]; have := matF_ge (s := s) (Z := Z) (img := img) f hK hn i; omega
def tkF (s K P Z : Nat) (img : List UInt8) (f : Nat → Nat) (i : Nat) : Nat := rankM (matF s K P Z img f i) - P
theorem tkF_zero {s K P Z : Nat} {img : List UInt8} (f : Nat → Nat) (hn : K + P ≤ 80) : tkF s K P Z img f 0 = 0 := by
  show rankM (matR s K P Z P) - P = 0
  rw [matR_rank hn P (Nat.le_refl _), Nat.sub_self]
theorem tkF_step {s K P Z : Nat} {img : List UInt8} (f : Nat → Nat) (hK : 1 ≤ K) (hn : K + P ≤ 80) (i : Nat) : tkF s K P Z img f i + (if (addMx (K + P) (matF s K P Z img f i) (spX s K P (f i)) (symX s K P Z img (f i))).2 then 1 else 0) = tkF s K P Z img f (i + 1) := by
  unfold tkF
  rw [matF_step f hK hn i]
  have := matF_ge (s := s) (Z := Z) (img := img) f hK hn i
  omega
theorem tkF_le {s K P Z : Nat} {img : List UInt8} (f : Nat → Nat) (hK : 1 ≤ K) (hn : K + P ≤ 80) (i : Nat) : tkF s K P Z img f i ≤ 80 := by
  have := rank_le (matF_got (s := s) (Z := Z) (img := img) f hK hn i).inv
  unfold tkF; omega
end Go.Proofs.YtidcnoejihjgjaaGreatDoor.Dc
namespace Go.Proofs.YtidcnoejihjgjaaGreatDoor.Dc
open Go.RowKit
open VecM RdM Vc Sp Pc El Cd
abbrev Obj := World → (Nat → Prop) → Prop
def Keeps (Q : Obj) : Prop := ∀ (W W' : World) (F : Nat → Prop), Q W F → (∀ b, F b → b < W.heap.size → W'.heap[b]? = W.heap[b]?) → W.heap.size ≤ W'.heap.size → Q W' F
def Sep3 (A B C : Obj) (w0 W : World) : Prop :=
  ∃ F G H, A W F ∧ B W G ∧ C W H ∧ (∀ b, F b → G b → False) ∧ (∀ b, F b → H b → False) ∧ (∀ b, G b → H b → False) ∧ (∀ b, F b ∨ G b ∨ H b → w0.heap.size ≤ b ∧ b < W.heap.size) ∧ Below w0.heap.size w0 W
def noObj : Obj := fun _ _ => True
theorem keeps_no : Keeps noObj := fun _ _ _ _ _ _ => trivial
theorem Sep3.start (w : World) : Sep3 noObj noObj noObj w w := ⟨fun _ => False, fun _ => False, fun _ => False, trivial, trivial, trivial, fun _ h => h.elim, fun _ h => h.elim, fun _ h => h.elim, fun _ h => by rcases h with h | h | h <;> exact h.elim, Below.refl _ _⟩
theorem Sep3.rot {A B C : Obj} {w0 W : World} (h : Sep3 A B C w0 W) : Sep3 B C A w0 W := by
  obtain ⟨F, G, H, a, b, c, h1, h2, h3, h4, h5⟩ := h
  exact ⟨G, H, F, b, c, a, h3, fun q x y => h1 q y x, fun q x y => h2 q y x, fun q hq => h4 q (by rcases hq with h | h | h; exact .inr (.inl h); exact .inr (.inr h); exact .inl h), h5⟩
theorem Sep3.swap {A B C : Obj} {w0 W : World} (h : Sep3 A B C w0 W) : Sep3 B A C w0 W := by
  obtain ⟨F, G, H, a, b, c, h1, h2, h3, h4, h5⟩ := h
  exact ⟨G, F, H, b, a, c, fun q x y => h1 q y x, h3, h2, fun q hq => h4 q (by rcases hq with h | h | h; exact .inr (.inl h); exact .inl h; exact .inr (.inr h)), h5⟩
theorem Sep3.b {A B C : Obj} {w0 W : World} (h : Sep3 A B C w0 W) : Below w0.heap.size w0 W := by
  obtain ⟨F, G, H, a, b, c, h1, h2, h3, h4, h5⟩ := h
  exact h5
theorem Sep3.below {A B C : Obj} {w0 W W' : World} (h : Sep3 A B C w0 W) (kA : Keeps A) (kB : Keeps B) (kC : Keeps C) (hb : Below W.heap.size W W') : Sep3 A B C w0 W' := by
  obtain ⟨F, G, H, a, b, c, h1, h2, h3, h4, h5⟩ := h
  exact ⟨F, G, H, kA W W' F a (fun q _ hl => hb.block q hl) hb.size, kB W W' G b (fun q _ hl => hb.block q hl) hb.size, kC W W' H c (fun q _ hl => hb.block q hl) hb.size, h1, h2, h3, fun q hq => ⟨(h4 q hq).1, Nat.lt_of_lt_of_le (h4 q hq).2 hb.size⟩, h5.trans (hb.mono h5.size)⟩
theorem Sep3.first2 {A B C : Obj} {w0 w : World} (h : Sep3 A B C w0 w) (kB : Keeps B) (kC : Keeps C) :
    ∃ F, A w F ∧ (∀ b, F b → w0.heap.size ≤ b) ∧ (∀ b, F b → b < w.heap.size) ∧ ∀ (w' : World) (A' : Obj), A' w' (fun b => F b ∨ (w.heap.size ≤ b ∧ b < w'.heap.size)) → Fr w w' F → Sep3 A' B C w0 w' := by
  obtain ⟨F, G, H, a, b, c, h1, h2, h3, h4, h5⟩ := h
  refine ⟨F, a, fun q hq => (h4 q (.inl hq)).1, fun q hq => (h4 q (.inl hq)).2, fun w' A' ha hf => ⟨_, G, H, ha, kB w w' G b (fun q hq hl => hf.block q hl fun hF => h1 q hF hq) hf.size, kC w w' H c (fun q hq hl => hf.block q hl fun hF => h2 q hF hq) hf.size, ?_, ?_, h3, ?_, ?_⟩⟩
  · rintro q (hq | hq) hg
    · exact h1 q hq hg
    · have := (h4 q (.inr (.inl hg))).2; omega
  · rintro q (hq | hq) hg
    · exact h2 q hq hg
    · have := (h4 q (.inr (.inr hg))).2; omega
  · have hs := hf.size
    have hs5 := h5.size
    rintro q ((hq | hq) | hq | hq)
    · have := h4 q (.inl hq); exact ⟨this.1, by omega⟩
    · exact ⟨by omega, hq.2⟩
    · have := h4 q (.inr (.inl hq)); exact ⟨this.1, by omega⟩
    · have := h4 q (.inr (.inr hq)); exact ⟨this.1, by omega⟩
  · exact h5.trans (hf.below (fun q hq => (h4 q (.inl hq)).1) h5.size)
theorem Sep3.first {A B C : Obj} {w0 w : World} (h : Sep3 A B C w0 w) (kB : Keeps B) (kC : Keeps C) :
    ∃ F, A w F ∧ (∀ b, F b → w0.heap.size ≤ b) ∧ ∀ (w' : World) (A' : Obj), A' w' (fun b => F b ∨ (w.heap.size ≤ b ∧ b < w'.heap.size)) → Fr w w' F → Sep3 A' B C w0 w' := by
  obtain ⟨F, a, b, _, d⟩ := h.first2 kB kC
  exact ⟨F, a, b, d⟩
theorem Sep3.create {A B C : Obj} {w0 w w' : World} (h : Sep3 A B C w0 w) (kB : Keeps B) (kC : Keeps C) (hb : Below w.heap.size w w') {A' : Obj} (ha : A' w' (fun b => w.heap.size ≤ b ∧ b < w'.heap.size)) : Sep3 A' B C w0 w' := by
  obtain ⟨F, G, H, a, b, c, h1, h2, h3, h4, h5⟩ := h
  have hs := hb.size
  have hs5 := h5.size
  refine ⟨_, G, H, ha, kB w w' G b (fun q _ hl => hb.block q hl) hs, kC w w' H c (fun q _ hl => hb.block q hl) hs, ?_, ?_, h3, ?_, h5.trans (hb.mono hs5)⟩
  · rintro q hq hg
    have := (h4 q (.inr (.inl hg))).2; omega
  · rintro q hq hg
    have := (h4 q (.inr (.inr hg))).2; omega
  · rintro q (hq | hq | hq)
    · exact ⟨by omega, hq.2⟩
    · have := h4 q (.inr (.inl hq)); exact ⟨this.1, by omega⟩
    · have := h4 q (.inr (.inr hq)); exact ⟨this.1, by omega⟩
def decO (gd s K P Z : Nat) (M : Mx) (t : Nat) : Obj := fun W F => IsDec W F gd s K P Z M t
theorem keeps_dec (gd s K P Z : Nat) (M : Mx) (t : Nat) : Keeps (decO gd s K P Z M t) := fun _ _ _ h hk _ => IsDec.keep h hk
def headO (s K P Z : Nat) (img : List UInt8) (g : Nat) : Obj := fun W H => H g ∧ g < W.heap.size ∧ ∀ W' : World, (∀ b, H b → b < W.heap.size → W'.heap[b]? = W.heap[b]?) → W.heap.size ≤ W'.heap.size → HF s K P Z img W' g ∨ ∃ B, HM s K P Z img W' B g
theorem keeps_head (s K P Z : Nat) (img : List UInt8) (g : Nat) : Keeps (headO s K P Z img g) := fun W W' F h hk hs =>
  ⟨h.1, Nat.lt_of_lt_of_le h.2.1 hs, fun W2 h2 hs2 => h.2.2 W2 (fun b hb hl => (h2 b hb (Nat.lt_of_lt_of_le hl hs)).trans (hk b hb hl)) (Nat.le_trans hs hs2)⟩
theorem head_new {s K P Z B g : Nat} {img : List UInt8} {W : World} (h : HFq s K P Z img B g W) (hg : B ≤ g) : headO s K P Z img g W (fun b => B ≤ b ∧ b < W.heap.size) :=
  ⟨⟨hg, h.hf.lt⟩, h.hf.lt, fun W' hk _ => .inl (h.keep fun b hb hl => hk b ⟨hb, hl⟩ hl).hf⟩
theorem head_done {s K P Z B g : Nat} {img : List UInt8} {W : World} (h : HM s K P Z img W B g) : headO s K P Z img g W (fun b => b = g ∨ (B ≤ b ∧ b < W.heap.size)) := by
  have hlt := h.lt
  obtain ⟨iv, A, c, h1, h2, h3⟩ := h
  exact ⟨.inl rfl, hlt, fun W' hk _ => .inr ⟨B, iv, A, c, (hk g (.inl rfl) hlt).trans h1, PW.keep2 h2 (allC_length _ _ _ _ _) fun b hb hl => hk b (.inr ⟨hb, hl⟩) hl, h3⟩⟩
theorem headO.more {s K P Z g : Nat} {img : List UInt8} {W : World} {H H' : Nat → Prop} (h : headO s K P Z img g W H) (hh : ∀ b, H b → H' b) : headO s K P Z img g W H' :=
  ⟨hh g h.1, h.2.1, fun W' hk hs => h.2.2 W' (fun b hb hl => hk b (hh b hb) hl) hs⟩
def SymH (s K P Z : Nat) (img : List UInt8) (id g : Nat) (H : Nat → Prop) (w : World) (e : Ending) (w' : World) : Prop :=
  ∃ A c, e = .returned (.slice A Z c) ∧ Hid (w'.ownsRow w.heap.size 5 1 (.slice A Z c) Z (bv (symX s K P Z img id))) ∧ Hid (headO s K P Z img g w' (fun b => H b ∨ (w.heap.size ≤ b ∧ b < w'.heap.size))) ∧ Hid (Fr w w' H)
theorem symH {s K P Z id g : Nat} {img : List UInt8} {H : Nat → Prop} {w : World} (h : headO s K P Z img g w H) (hs : s < 4294967296) (hid : id < 4294967296) (hK : 1 ≤ K ∧ K ≤ 64) (hP : P ≤ 16) (hZ : 1 ≤ Z ∧ Z ≤ 16) (hc : BlkM.count (img.length : Int) (Z : Int) = K) (ht : DTab w) :
    Calls Tryz.prog 50 #[.pointer (some ⟨g, 0, none⟩), .int .u32 (id : Int)] w (SymH s K P Z img id g H w) := by
  rcases h.2.2 w (fun _ _ _ => rfl) (Nat.le_refl _) with hf | ⟨B, hm⟩
  · refine (sym_gen s K P Z id g _ img _ w hs hid hK hP hZ (grows_but hf ht) (made_first s K P Z g img w hs hK hP hZ hc hf)).mono ?_
    rintro e w' ⟨A, n, c, rfl, hn, ho, hm, hr⟩
    obtain rfl : Z = n := (hn.out.trans (symX_length hK.1 (by omega))).symm
    refine ⟨A, c, rfl, ho, Lib.hid ((head_done hm.out).more fun b hb => ?_), Lib.hid ⟨hr.out.os, hr.out.tape, hr.out.output, hr.out.size, fun b hl hn => hr.out.block b hl fun e => hn (by rw [e]; exact h.1)⟩⟩
    rcases hb with hb | hb
    · exact .inl (by rw [hb]; exact h.1)
    · exact .inr ⟨by omega, hb.2⟩
  · obtain ⟨A0, c0, hv⟩ := hm.hv
    refine (sym_gen s K P Z id g _ img _ w hs hid hK hP hZ (grows_below ht) (made_done s K P Z c0 g _ A0 img w hv)).mono ?_
    rintro e w' ⟨A, n, c, rfl, hn, ho, _, hr⟩
    obtain rfl : Z = n := (hn.out.trans (symX_length hK.1 (by omega))).symm
    exact ⟨A, c, rfl, ho, Lib.hid ((keeps_head s K P Z img g w w' H h (fun b _ hl => hr.out.block b hl) hr.out.size).more fun b hb => .inl hb), Lib.hid (Fr.of_below hr.out)⟩
end Go.Proofs.YtidcnoejihjgjaaGreatDoor.Dc
namespace Go.Proofs.YtidcnoejihjgjaaGreatDoor.Dc
open Go.RowKit
open VecM RdM Vc Sp Pc El Cd
def matG (s K P : Nat) (f : Nat → Nat) : Nat → Mx
  | 0 => matR s K P 1 P
  | i + 1 => (addMx (K + P) (matG s K P f i) (spX s K P (f i)) [0]).1
theorem matG_got {s K P : Nat} (f : Nat → Nat) (hn : K + P ≤ 80) : ∀ i, Got (K + P) 1 (matG s K P f i) (fun X => parP s K P X ∨ ∃ j, j < i ∧ X = spX s K P (f j))
  | 0 => (matR_got hn P (Nat.le_refl _)).congr fun X => ⟨.inl, fun h => h.elim id fun ⟨j, hj, _⟩ => absurd hj (Nat.not_lt_zero j)⟩
  | i + 1 => by
    refine ((matG_got f hn i).add (by omega) (spX_lt (s := s) (id := f i)) (l := [0]) rfl).congr fun X => ⟨?_, ?_⟩
    · rintro ((h | ⟨j, hj, e⟩) | e)
      · exact .inl h
      · exact .inr ⟨j, by omega, e⟩
      · exact .inr ⟨i, by omega, e⟩
    · rintro (h | ⟨j, hj, e⟩)
      · exact .inl (.inl h)
      · by_cases h : j < i
        · exact .inl (.inr ⟨j, h, e⟩)
        · exact .inr (by rw [e, show j = i by omega])
theorem matG_new {s K P Z : Nat} {img : List UInt8} (f : Nat → Nat) (hK : 1 ≤ K) (hn : K + P ≤ 80) (i : Nat) (X : Nat) (l m : List UInt8) : (addMx (K + P) (matG s K P f i) X l).2 = (addMx (K + P) (matF s K P Z img f i) X m).2 := by
  rw [Bool.eq_iff_iff, (matG_got f hn i).says, (matF_got f hK hn i).says]
theorem matG_rank {s K P Z : Nat} {img : List UInt8} (f : Nat → Nat) (hK : 1 ≤ K) (hn : K + P ≤ 80) : ∀ i, rankM (matG s K P f i) = rankM (matF s K P Z img f i)
  | 0 => by show rankM (matR s K P 1 P) = rankM (matR s K P Z P); rw [matR_rank hn P (Nat.le_refl _), matR_rank hn P (Nat.le_refl _)]
  | i + 1 => by
    rw [matF_step f hK hn i, ← matG_rank f hK hn i, ← matG_new f hK hn i _ [0]]
    exact rank_add (matG_got f hn i).inv (by omega) (spX_lt (s := s) (id := f i)) rfl
def pairO (A B : Obj) : Obj := fun W F => ∃ G H, A W G ∧ B W H ∧ (∀ b, G b → H b → False) ∧ (∀ b, F b ↔ G b ∨ H b)
theorem keeps_pair {A B : Obj} (kA : Keeps A) (kB : Keeps B) : Keeps (pairO A B) := fun W W' F ⟨G, H, a, b, h1, h2⟩ hk hs =>
  ⟨G, H, kA W W' G a (fun q hq hl => hk q ((h2 q).2 (.inl hq)) hl) hs, kB W W' H b (fun q hq hl => hk q ((h2 q).2 (.inr hq)) hl) hs, h1, h2⟩
theorem Sep3.ex {A B C D : Obj} {w0 W : World} (h : Sep3 A B (pairO C D) w0 W) : Sep3 C B (pairO A D) w0 W := by
  obtain ⟨F, G, H, a, b, ⟨H1, H2, c, d, h0, h8⟩, h1, h2, h3, h4, h5⟩ := h
  refine ⟨H1, G, fun b => F b ∨ H2 b, c, b, ⟨F, H2, a, d, fun q x y => h2 q x ((h8 q).2 (.inr y)), fun q => Iff.rfl⟩, fun q x y => h3 q y ((h8 q).2 (.inl x)), ?_, ?_, ?_, h5⟩
  · rintro q x (y | y)
    · exact h2 q y ((h8 q).2 (.inl x))
    · exact h0 q x y
  · rintro q x (y | y)
    · exact h1 q y x
    · exact h3 q x ((h8 q).2 (.inr y))
  · rintro q (x | x | x | x)
    · exact h4 q (.inr (.inr ((h8 q).2 (.inl x))))
    · exact h4 q (.inr (.inl x))
    · exact h4 q (.inl x)
    · exact h4 q (.inr (.inr ((h8 q).2 (.inr x))))
theorem Sep3.drop {A B C D : Obj} {w0 W : World} (h : Sep3 A B (pairO C D) w0 W) : Sep3 A B C w0 W := by
  obtain ⟨F, G, H, a, b, ⟨H1, H2, c, d, h0, h8⟩, h1, h2, h3, h4, h5⟩ := h
  refine ⟨F, G, H1, a, b, c, h1, fun q x y => h2 q x ((h8 q).2 (.inl y)), fun q x y => h3 q x ((h8 q).2 (.inl y)), ?_, h5⟩
  rintro q (x | x | x)
  · exact h4 q (.inl x)
  · exact h4 q (.inr (.inl x))
  · exact h4 q (.inr (.inr ((h8 q).2 (.inl x))))
theorem Sep3.look4 {A B C D : Obj} {w0 W : World} (h : Sep3 A B (pairO C D) w0 W) : ∃ F, D W F := by
  obtain ⟨F, G, H, a, b, ⟨H1, H2, c, d, h0, h8⟩, h1, h2, h3, h4, h5⟩ := h
  exact ⟨H2, d⟩
theorem Sep3.create4 {A B C D : Obj} {w0 w w' : World} (h : Sep3 A B C w0 w) (kA : Keeps A) (kB : Keeps B) (kC : Keeps C) (hb : Below w.heap.size w w') (hd : D w' (fun b => w.heap.size ≤ b ∧ b < w'.heap.size)) : Sep3 A B (pairO C D) w0 w' := by
  obtain ⟨F, G, H, a, b, c, h1, h2, h3, h4, h5⟩ := h
  have hs := hb.size
  have hs5 := h5.size
  refine ⟨F, G, fun b => H b ∨ (w.heap.size ≤ b ∧ b < w'.heap.size), kA w w' F a (fun q _ hl => hb.block q hl) hs, kB w w' G b (fun q _ hl => hb.block q hl) hs, ⟨H, _, kC w w' H c (fun q _ hl => hb.block q hl) hs, hd, ?_, fun q => Iff.rfl⟩, h1, ?_, ?_, ?_, h5.trans (hb.mono hs5)⟩
  · intro q x y
    have := (h4 q (.inr (.inr x))).2; omega
  · rintro q x (y | y)
    · exact h2 q x y
    · have := (h4 q (.inl x)).2; omega
  · rintro q x (y | y)
    · exact h3 q x y
    · have := (h4 q (.inr (.inl x))).2; omega
  · rintro q (x | x | x | x)
    · have := h4 q (.inl x); exact ⟨this.1, by omega⟩
    · have := h4 q (.inr (.inl x)); exact ⟨this.1, by omega⟩
    · have := h4 q (.inr (.inr x)); exact ⟨this.1, by omega⟩
    · exact ⟨by omega, x.2⟩
def allO (A : Option Addr) (xs : List Value) : Obj := fun W F => ∀ j u, xs[j]? = some u → ∃ g o, A = some ⟨g, o, none⟩ ∧ F g ∧ g < W.heap.size ∧ W.cell? ⟨g, o + j, none⟩ = some u
theorem keeps_all (A : Option Addr) (xs : List Value) : Keeps (allO A xs) := fun W W' F h hk hs j u hu => by
  obtain ⟨g, o, e, hF, hl, hc⟩ := h j u hu
  exact ⟨g, o, e, hF, Nat.lt_of_lt_of_le hl hs, (World.cell?_of_block (w := W) (hk g hF hl)).trans hc⟩
theorem all_own {W : World} {base n c : Nat} {e : TypeId} {A : Option Addr} {xs : List Value} (h : W.ownsRow base e 1 (.slice A n c) n xs) : allO A xs W (fun b => base ≤ b ∧ b < W.heap.size) := fun j u hu => by
  have hl : j < xs.length := (List.getElem?_eq_some_iff.1 hu).1
  have hr := Row.of_own h
  have hn : xs.length = n := by simpa using h.1
  obtain ⟨g, o, e1, hlt, hc⟩ := hr.2 (by omega)
  rcases h.2 with ⟨hv, h0⟩ | ⟨g2, cap, cur, hv, hg, _⟩
  · omega
  · injection hv with e2
    rw [e1] at e2
    injection e2 with e2
    injection e2 with e2
    exact ⟨g, o, e1, ⟨by omega, hlt⟩, hlt, hc j u hu⟩
end Go.Proofs.YtidcnoejihjgjaaGreatDoor.Dc
namespace Go.Proofs.YtidcnoejihjgjaaGreatDoor.Dc
open Go.RowKit
open VecM RdM Vc Sp Pc El Cd
def uv (l : List Nat) : List Value := l.map fun x : Nat => .int .u32 (x : Int)
theorem uv_length (l : List Nat) : (uv l).length = l.length := by simp [uv]
theorem uv_get {l : List Nat} {i : Nat} (h : i < l.length) : (uv l)[i]? = some (.int .u32 ((l.getD i 0 : Nat) : Int)) := by
  simp [uv, h]
def first (us : List Nat) (m : Nat) : List Nat := (List.range m).map fun i => us.getD i 0
theorem first_len (us : List Nat) (m : Nat) : (first us m).length = m := by simp [first]
theorem first_row {W : World} {B m : Nat} {us : List Nat} {U : Option Addr} (hu : ∀ i, i < m → ∃ b o, U = some ⟨b, o, none⟩ ∧ b < B ∧ W.cell? ⟨b, o + i, none⟩ = some (.int .u32 ((us.getD i 0 : Nat) : Int))) : Row W B U m (uv (first us m)) := by
  refine ⟨by rw [uv_length, first_len], fun hn => ?_⟩
  obtain ⟨b, o, e, hb, _⟩ := hu 0 (by omega)
  refine ⟨b, o, e, hb, fun j u hj => ?_⟩
  have hl : j < m := by
    have := (List.getElem?_eq_some_iff.1 hj).1
    rwa [uv_length, first_len] at this
  obtain ⟨b2, o2, e2, _, hc⟩ := hu j hl
  rw [e] at e2
  injection e2 with e2
  injection e2 with e3 e4
  subst e3 e4
  rw [hc, ← hj, uv_get (by rw [first_len]; exact hl)]
  simp [first, List.getD, hl]
end Go.Proofs.YtidcnoejihjgjaaGreatDoor.Dc
