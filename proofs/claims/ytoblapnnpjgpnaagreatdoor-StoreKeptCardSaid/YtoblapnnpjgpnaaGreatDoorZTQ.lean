/- Objects that lie apart in memory. -/
import Derived.Test.YtoblapnnpjgpnaaGreatDoorDcMathQ
import Derived.Test.YtoblapnnpjgpnaaGreatDoorZNQ
namespace Go.Proofs.YtoblapnnpjgpnaaGreatDoor.Dc
open Go.RowKit
open VecM RdM Vc Sp Pc El Cd
/-- an object, in blocks of which a predicate says so -/
abbrev Obj := World → (Nat → Prop) → Prop
def Keeps (Q : Obj) : Prop := ∀ (W W' : World) (F : Nat → Prop), Q W F → (∀ b, F b → b < W.heap.size → W'.heap[b]? = W.heap[b]?) → W.heap.size ≤ W'.heap.size → Q W' F
/-- three objects, apart, made since world w0 -/
def Sep3 (A B C : Obj) (w0 W : World) : Prop :=
  ∃ F G H, A W F ∧ B W G ∧ C W H ∧ (∀ b, F b → G b → False) ∧ (∀ b, F b → H b → False) ∧ (∀ b, G b → H b → False) ∧ (∀ b, F b ∨ G b ∨ H b → w0.heap.size ≤ b ∧ b < W.heap.size) ∧ Below w0.heap.size w0 W
def noObj : Obj := fun _ _ => True
theorem Sep3.start (w : World) : Sep3 noObj noObj noObj w w := ⟨fun _ => False, fun _ => False, fun _ => False, trivial, trivial, trivial, fun _ h => h.elim, fun _ h => h.elim, fun _ h => h.elim, fun _ h => by rcases h with h | h | h <;> exact h.elim, Below.refl _ _⟩
theorem Sep3.b {A B C : Obj} {w0 W : World} (h : Sep3 A B C w0 W) : Below w0.heap.size w0 W := by
  obtain ⟨F, G, H, a, b, c, h1, h2, h3, h4, h5⟩ := h
  exact h5
theorem Sep3.below {A B C : Obj} {w0 W W' : World} (h : Sep3 A B C w0 W) (kA : Keeps A) (kB : Keeps B) (kC : Keeps C) (hb : Below W.heap.size W W') : Sep3 A B C w0 W' := by
  obtain ⟨F, G, H, a, b, c, h1, h2, h3, h4, h5⟩ := h
  exact ⟨F, G, H, kA W W' F a (fun q _ hl => hb.block q hl) hb.size, kB W W' G b (fun q _ hl => hb.block q hl) hb.size, kC W W' H c (fun q _ hl => hb.block q hl) hb.size, h1, h2, h3, fun q hq => ⟨(h4 q hq).1, Nat.lt_of_lt_of_le (h4 q hq).2 hb.size⟩, h5.trans (hb.mono h5.size)⟩
/-- a call on the first one -/
theorem Sep3.first2 {A B C : Obj} {w0 w : World} (h : Sep3 A B C w0 w) (kB : Keeps B) (kC : Keeps C) :
    ∃ F, A w F ∧ (∀ b, F b → w0.heap.size ≤ b) ∧ (∀ b, F b → b < w.heap.size) ∧ ∀ (w' : World) (A' : Obj), A' w' (fun b => F b ∨ (w.heap.size ≤ b ∧ b < w'.heap.size)) → Fr w w' F → Sep3 A' B C w0 w' := by
  obtain ⟨F, G, H, a, b, c, h1, h2, h3, h4, h5⟩ := h
  refine ⟨F, a, fun q hq => (h4 q (.inl hq)).1, fun q hq => (h4 q (.inl hq)).2, fun w' A' ha hf => ⟨_, G, H, ha, kB w w' G b (fun q hq hl => hf.block q hl fun hF => h1 q hF hq) hf.size, kC w w' H c (fun q hq hl => hf.block q hl fun hF => h2 q hF hq) hf.size, ?_, ?_, h3, ?_, ?_⟩⟩
  · rintro q (hq | hq) hg
    · exact h1 q hq hg
    · have := (h4 q (.inr (.inl hg))).2; omega
  · rintro q (hq | hq) hg
    · exact h2 q hq hg
    · have := (h4 q (.inr (.inr hg))).2; omega
  · have hs := hf.size
    have hs5 := h5.size
    rintro q ((hq | hq) | hq | hq)
    · have := h4 q (.inl hq); exact ⟨this.1, by omega⟩
    · exact ⟨by omega, hq.2⟩
    · have := h4 q (.inr (.inl hq)); exact ⟨this.1, by omega⟩
    · have := h4 q (.inr (.inr hq)); exact ⟨this.1, by omega⟩
  · exact h5.trans (hf.below (fun q hq => (h4 q (.inl hq)).1) h5.size)
theorem Sep3.first {A B C : Obj} {w0 w : World} (h : Sep3 A B C w0 w) (kB : Keeps B) (kC : Keeps C) :
    ∃ F, A w F ∧ (∀ b, F b → w0.heap.size ≤ b) ∧ ∀ (w' : World) (A' : Obj), A' w' (fun b => F b ∨ (w.heap.size ≤ b ∧ b < w'.heap.size)) → Fr w w' F → Sep3 A' B C w0 w' := by
  obtain ⟨F, a, b, _, d⟩ := h.first2 kB kC
  exact ⟨F, a, b, d⟩
/-- a head, asked or not -/
def headO (s K P Z : Nat) (img : List UInt8) (g : Nat) : Obj := fun W H => H g ∧ g < W.heap.size ∧ ∀ W' : World, (∀ b, H b → b < W.heap.size → W'.heap[b]? = W.heap[b]?) → W.heap.size ≤ W'.heap.size → HF s K P Z img W' g ∨ ∃ B, HM s K P Z img W' B g
theorem keeps_head (s K P Z : Nat) (img : List UInt8) (g : Nat) : Keeps (headO s K P Z img g) := fun W W' F h hk hs =>
  ⟨h.1, Nat.lt_of_lt_of_le h.2.1 hs, fun W2 h2 hs2 => h.2.2 W2 (fun b hb hl => (h2 b hb (Nat.lt_of_lt_of_le hl hs)).trans (hk b hb hl)) (Nat.le_trans hs hs2)⟩
theorem head_new {s K P Z B g : Nat} {img : List UInt8} {W : World} (h : HFq s K P Z img B g W) (hg : B ≤ g) : headO s K P Z img g W (fun b => B ≤ b ∧ b < W.heap.size) :=
  ⟨⟨hg, h.hf.lt⟩, h.hf.lt, fun W' hk _ => .inl (h.keep fun b hb hl => hk b ⟨hb, hl⟩ hl).hf⟩
theorem head_done {s K P Z B g : Nat} {img : List UInt8} {W : World} (h : HM s K P Z img W B g) : headO s K P Z img g W (fun b => b = g ∨ (B ≤ b ∧ b < W.heap.size)) := by
  have hlt := h.lt
  obtain ⟨iv, A, c, h1, h2, h3⟩ := h
  exact ⟨.inl rfl, hlt, fun W' hk _ => .inr ⟨B, iv, A, c, (hk g (.inl rfl) hlt).trans h1, PW.keep2 h2 (allC_length _ _ _ _ _) fun b hb hl => hk b (.inr ⟨hb, hl⟩) hl, h3⟩⟩
theorem headO.more {s K P Z g : Nat} {img : List UInt8} {W : World} {H H' : Nat → Prop} (h : headO s K P Z img g W H) (hh : ∀ b, H b → H' b) : headO s K P Z img g W H' :=
  ⟨hh g h.1, h.2.1, fun W' hk hs => h.2.2 W' (fun b hb hl => hk b (hh b hb) hl) hs⟩
def SymH (s K P Z : Nat) (img : List UInt8) (id g : Nat) (H : Nat → Prop) (w : World) (e : Ending) (w' : World) : Prop :=
  ∃ A c, e = .returned (.slice A Z c) ∧ Hid (w'.ownsRow w.heap.size 5 1 (.slice A Z c) Z (bv (symX s K P Z img id))) ∧ Hid (headO s K P Z img g w' (fun b => H b ∨ (w.heap.size ≤ b ∧ b < w'.heap.size))) ∧ Hid (Fr w w' H)
theorem DTab.frm {w0 w w' : World} {F : Nat → Prop} (h : DTab w0) (hb : Below w0.heap.size w0 w) (hf : Fr w w' F) (hF : ∀ b, F b → w0.heap.size ≤ b) : DTab w' :=
  h.grow (hb.trans (hf.below hF hb.size))
/-- a symbol of it -/
theorem symH {s K P Z id g : Nat} {img : List UInt8} {H : Nat → Prop} {w : World} (h : headO s K P Z img g w H) (hs : s < 4294967296) (hid : id < 4294967296) (hK : 1 ≤ K ∧ K ≤ 64) (hP : P ≤ 16) (hZ : 1 ≤ Z ∧ Z ≤ 16) (hc : BlkM.count (img.length : Int) (Z : Int) = K) (ht : DTab w) :
    Calls Tryz.prog 19 #[.pointer (some ⟨g, 0, none⟩), .int .u32 (id : Int)] w (SymH s K P Z img id g H w) := by
  rcases h.2.2 w (fun _ _ _ => rfl) (Nat.le_refl _) with hf | ⟨B, hm⟩
  · refine (sym_gen s K P Z id g _ img _ w hs hid hK hP hZ (grows_but hf ht) (made_first s K P Z g img w hs hK hP hZ hc hf)).mono ?_
    rintro e w' ⟨A, n, c, rfl, hn, ho, hm, hr⟩
    obtain rfl : Z = n := (hn.out.trans (symX_length hK.1 (by omega))).symm
    refine ⟨A, c, rfl, ho, Lib.hid ((head_done hm.out).more fun b hb => ?_), Lib.hid ⟨hr.out.os, hr.out.tape, hr.out.output, hr.out.size, fun b hl hn => hr.out.block b hl fun e => hn (by rw [e]; exact h.1)⟩⟩
    rcases hb with hb | hb
    · exact .inl (by rw [hb]; exact h.1)
    · exact .inr ⟨by omega, hb.2⟩
  · obtain ⟨A0, c0, hv⟩ := hm.hv
    refine (sym_gen s K P Z id g _ img _ w hs hid hK hP hZ (grows_below ht) (made_done s K P Z c0 g _ A0 img w hv)).mono ?_
    rintro e w' ⟨A, n, c, rfl, hn, ho, _, hr⟩
    obtain rfl : Z = n := (hn.out.trans (symX_length hK.1 (by omega))).symm
    exact ⟨A, c, rfl, ho, Lib.hid ((keeps_head s K P Z img g w w' H h (fun b _ hl => hr.out.block b hl) hr.out.size).more fun b hb => .inl hb), Lib.hid (Fr.of_below hr.out)⟩
end Go.Proofs.YtoblapnnpjgpnaaGreatDoor.Dc
namespace Go.Proofs.YtoblapnnpjgpnaaGreatDoor.Dc
open Go.RowKit
open VecM RdM Vc Sp Pc El Cd
theorem cnt32 : BlkM.count 3 2 = 2 := by decide +kernel
end Go.Proofs.YtoblapnnpjgpnaaGreatDoor.Dc
