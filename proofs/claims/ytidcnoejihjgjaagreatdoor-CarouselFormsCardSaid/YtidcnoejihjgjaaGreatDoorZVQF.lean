/- A manifest as bytes, and back: mathematics. -/
import Derived.Test.YtidcnoejihjgjaaGreatDoorZSQF
namespace Go.Proofs.YtidcnoejihjgjaaGreatDoor
def LMan.bytes (M : LMan) : List UInt8 := plainB M.s M.v M.l.toNat M.z.toNat M.p.toNat M.h
def manRead (l : List UInt8) : LMan := ⟨CrcM.number (l.take 4), CrcM.number ((l.drop 4).take 4), (CrcM.number ((l.drop 8).take 2) : Nat), ((l.getD 10 0).toNat : Int), ((l.getD 11 0).toNat : Int), l.drop 12⟩
theorem bytes_len (M : LMan) : M.bytes.length = 12 + M.h.length := by
  simp [LMan.bytes, plainB, CrcM.four]; omega
end Go.Proofs.YtidcnoejihjgjaaGreatDoor
namespace Go.Proofs.YtidcnoejihjgjaaGreatDoor
structure Rd where
  l : List UInt8
  e : Int
def Rd.fail (r : Rd) (k : Int) : Rd := if r.e = 0 then ⟨r.l, k⟩ else r
def Rd.short (r : Rd) (n : Nat) : Rd := if r.l.length < n then r.fail 2 else r
def Rd.got (r : Rd) (n : Nat) : List UInt8 := if (r.short n).e = 0 then r.l.take n else List.replicate n 0
def Rd.past (r : Rd) (n : Nat) : Rd := if (r.short n).e = 0 then ⟨r.l.drop n, 0⟩ else r.short n
def Rd.take (n : Nat) (r : Rd) : List UInt8 × Rd := (r.got n, r.past n)
def Rd.num (n : Nat) (r : Rd) : Nat × Rd := (CrcM.number (r.got n), r.past n)
def Rd.flag (r : Rd) : Bool × Rd := (decide ((Rd.num 1 r).1 = 1), if 1 < (Rd.num 1 r).1 then (Rd.num 1 r).2.fail 3 else (Rd.num 1 r).2)
def Rd.bind {α β : Type} (X : Rd → α × Rd) (Y : α → Rd → β × Rd) (r : Rd) : (α × β) × Rd := (((X r).1, (Y (X r).1 (X r).2).1), (Y (X r).1 (X r).2).2)
structure LSlot where
  v : Nat
  l : Int
  h : List UInt8
def LSlot.zero : LSlot := ⟨0, 0, []⟩
def Rd.slot (r : Rd) : LSlot × Rd := if r.flag.1 then (⟨(Rd.num 4 r.flag.2).1, ((Rd.num 2 (Rd.num 4 r.flag.2).2).1 : Nat), (Rd.take 32 (Rd.num 2 (Rd.num 4 r.flag.2).2).2).1⟩, (Rd.take 32 (Rd.num 2 (Rd.num 4 r.flag.2).2).2).2) else (LSlot.zero, r.flag.2)
def readM (l : List UInt8) : LMan := if l.length = 44 ∧ (manRead l).may = true then manRead l else LMan.zero
def readE (l : List UInt8) : Int := if l.length = 44 ∧ (manRead l).may = true then 0 else 3
def Rd.man (r : Rd) : LMan × Rd := (readM (r.got 44), (r.past 44).fail (readE (r.got 44)))
def Rd.now (r : Rd) : (Bool × LMan) × Rd := if r.flag.1 then ((true, r.flag.2.man.1), r.flag.2.man.2) else ((false, LMan.zero), r.flag.2)
structure Codec {α : Type} (X : Rd → α × Rd) (enc : α → List UInt8) (V : α → Prop) : Prop where
  fwd : ∀ v q, V v → X ⟨enc v ++ q, 0⟩ = (v, ⟨q, 0⟩)
  bwd : ∀ l, (X ⟨l, 0⟩).2.e = 0 → V (X ⟨l, 0⟩).1 ∧ l = enc (X ⟨l, 0⟩).1 ++ (X ⟨l, 0⟩).2.l
  cut : ∀ v p s, V v → enc v = p ++ s → s ≠ [] → (X ⟨p, 0⟩).2.e = 2
  err : ∀ l e, e ≠ 0 → (X ⟨l, e⟩).2.e = e
theorem rd_eta {r : Rd} {k : Int} (h : r.e = k) : r = ⟨r.l, k⟩ := by subst h; rfl
theorem Codec.map {α β : Type} {X : Rd → α × Rd} {enc : α → List UInt8} {V : α → Prop} (h : Codec X enc V) (f : α → β) (g : β → α) (V' : β → Prop) (h1 : ∀ a, V a → V' (f a) ∧ g (f a) = a) (h2 : ∀ b, V' b → V (g b) ∧ f (g b) = b) :
    Codec (fun r => (f (X r).1, (X r).2)) (fun b => enc (g b)) V' := by
  refine ⟨fun v q hv => ?_, fun l hl => ?_, fun v p s hv e hs => h.cut _ p s (h2 v hv).1 e hs, fun l e he => h.err l e he⟩
  · rw [h.fwd _ q (h2 v hv).1]; show (f (g v), _) = _; rw [(h2 v hv).2]
  · obtain ⟨k1, k2⟩ := h.bwd l hl
    refine ⟨(h1 _ k1).1, ?_⟩
    rw [(h1 _ k1).2]; exact k2
theorem Codec.bind {α β : Type} {X : Rd → α × Rd} {enc : α → List UInt8} {V : α → Prop} {Y : α → Rd → β × Rd} {ency : α → β → List UInt8} {W : α → β → Prop} (h : Codec X enc V) (hy : ∀ a, V a → Codec (Y a) (ency a) (W a)) (hye : ∀ a l e, e ≠ 0 → (Y a ⟨l, e⟩).2.e = e) :
    Codec (Rd.bind X Y) (fun v => enc v.1 ++ ency v.1 v.2) (fun v => V v.1 ∧ W v.1 v.2) := by
  refine ⟨fun v q hv => ?_, fun l hl => ?_, fun v p s hv e hs => ?_, fun l e he => ?_⟩
  · obtain ⟨a, b⟩ := v
    simp only [Rd.bind, List.append_assoc, h.fwd a _ hv.1, (hy a hv.1).fwd b q hv.2]
  · have hx : (X ⟨l, 0⟩).2.e = 0 := by
      refine Decidable.byContradiction fun hne => ?_
      have : (Rd.bind X Y ⟨l, 0⟩).2.e = (X ⟨l, 0⟩).2.e := hye _ (X ⟨l, 0⟩).2.l _ hne
      rw [hl] at this
      exact hne this.symm
    obtain ⟨k1, k2⟩ := h.bwd l hx
    have e2 : (X ⟨l, 0⟩).2 = ⟨(X ⟨l, 0⟩).2.l, 0⟩ := rd_eta hx
    have hl' : (Y (X ⟨l, 0⟩).1 ⟨(X ⟨l, 0⟩).2.l, 0⟩).2.e = 0 := by rw [← e2]; exact hl
    obtain ⟨k3, k4⟩ := (hy _ k1).bwd _ hl'
    rw [← e2] at k3 k4
    refine ⟨⟨k1, k3⟩, ?_⟩
    show l = (enc (X ⟨l, 0⟩).1 ++ ency (X ⟨l, 0⟩).1 (Y (X ⟨l, 0⟩).1 (X ⟨l, 0⟩).2).1) ++ (Y (X ⟨l, 0⟩).1 (X ⟨l, 0⟩).2).2.l
    rw [List.append_assoc, ← k4]; exact k2
  · obtain ⟨a, b⟩ := v
    have e' : enc a ++ ency a b = p ++ s := e
    rcases List.append_eq_append_iff.1 e' with ⟨c, hp, hb⟩ | ⟨c, ha, hb⟩
    · -- the first one whole
      have := (hy a hv.1).cut b c s hv.2 hb hs
      simp only [Rd.bind, hp, h.fwd a c hv.1]
      exact this
    · by_cases hc : c = []
      · subst hc
        rw [List.append_nil] at ha
        rw [List.nil_append] at hb
        have := (hy a hv.1).cut b [] s hv.2 hb.symm hs
        have hp : p = enc a ++ [] := by rw [List.append_nil]; exact ha.symm
        simp only [Rd.bind, hp, h.fwd a [] hv.1]
        exact this
      · have := h.cut a p c hv.1 ha hc
        show (Y (X ⟨p, 0⟩).1 (X ⟨p, 0⟩).2).2.e = 2
        have e2 : (X ⟨p, 0⟩).2 = ⟨(X ⟨p, 0⟩).2.l, 2⟩ := rd_eta this
        rw [e2]
        exact hye _ _ 2 (by decide)
  · have h1 := h.err l e he
    show (Y (X ⟨l, e⟩).1 (X ⟨l, e⟩).2).2.e = e
    rw [rd_eta h1]
    exact hye _ _ e he
theorem Codec.congr {α : Type} {X X' : Rd → α × Rd} {enc enc' : α → List UInt8} {V V' : α → Prop} (h : Codec X enc V) (h1 : ∀ r, X' r = X r) (h2 : ∀ v, V v → enc' v = enc v) (h3 : ∀ v, V' v ↔ V v) : Codec X' enc' V' := by
  refine ⟨fun v q hv => ?_, fun l hl => ?_, fun v p s hv e hs => ?_, fun l e he => ?_⟩
  · rw [h1, h2 v ((h3 v).1 hv)]; exact h.fwd v q ((h3 v).1 hv)
  · rw [h1] at hl ⊢
    obtain ⟨k1, k2⟩ := h.bwd l hl
    exact ⟨(h3 _).2 k1, by rw [h2 _ k1]; exact k2⟩
  · rw [h1]; exact h.cut v p s ((h3 v).1 hv) (by rw [← h2 v ((h3 v).1 hv)]; exact e) hs
  · rw [h1]; exact h.err l e he
def LSlot.full (s : LSlot) : Prop := s.v < 4294967296 ∧ 0 ≤ s.l ∧ s.l < 65536 ∧ s.h.length = 32
def LSlot.none (s : LSlot) : Bool := emptyB s.v s.l s.h
def LSlot.bytes (s : LSlot) : List UInt8 := if s.none then [0] else 1 :: (CrcM.four s.v ++ [UInt8.ofNat (s.l.toNat / 256), UInt8.ofNat s.l.toNat] ++ s.h)
def LSlot.ok (s : LSlot) : Prop := s = LSlot.zero ∨ s.full
def LMan.ok (M : LMan) : Prop := M.may = true ∧ M.s < 4294967296 ∧ M.v < 4294967296
theorem may_32 {M : LMan} (h : M.may = true) : M.h.length = 32 := by
  obtain ⟨_, _, _, _, _, _, _, _, _, _, _, h32⟩ := man_bounds h
  exact h32
def nowOk (v : Bool × LMan) : Prop := if v.1 then v.2.ok else v.2 = LMan.zero
def Rd.parts : Rd → (Nat × Nat × Nat × Nat × LSlot × LSlot × Bool × LMan) × Rd :=
  Rd.bind (Rd.num 1) fun _ => Rd.bind (Rd.num 1) fun _ => Rd.bind (Rd.num 4) fun _ => Rd.bind (Rd.num 4) fun _ => Rd.bind Rd.slot fun _ => Rd.bind Rd.slot fun _ => Rd.now
def LSt.s0 (L : LSt) : LSlot := ⟨L.v0, L.l0, L.h0⟩
def LSt.s1 (L : LSt) : LSlot := ⟨L.v1, L.l1, L.h1⟩
def LSt.ok (L : LSt) : Prop := 0 ≤ L.act ∧ L.act < 256 ∧ 0 ≤ L.trial ∧ L.trial < 256 ∧ L.flo < 4294967296 ∧ L.gen < 4294967296 ∧ L.s0.ok ∧ L.s1.ok ∧ nowOk (L.on, L.m)
def LSt.bytes (L : LSt) : List UInt8 := [UInt8.ofNat L.act.toNat, UInt8.ofNat L.trial.toNat] ++ CrcM.four L.flo ++ CrcM.four L.gen ++ L.s0.bytes ++ L.s1.bytes ++ (if L.on then 1 :: L.m.bytes else [0])
end Go.Proofs.YtidcnoejihjgjaaGreatDoor
