/- A state as bytes, and a reader of bytes: mathematics. -/
import Derived.Test.YtdipccjgpkedhaaManMath
namespace Go.Proofs.Ytdipccjgpkedhaa
structure Rd where
  l : List UInt8
  e : Int
def Rd.fail (r : Rd) (k : Int) : Rd := if r.e = 0 then ⟨r.l, k⟩ else r
def Rd.short (r : Rd) (n : Nat) : Rd := if r.l.length < n then r.fail 2 else r
def Rd.got (r : Rd) (n : Nat) : List UInt8 := if (r.short n).e = 0 then r.l.take n else List.replicate n 0
def Rd.past (r : Rd) (n : Nat) : Rd := if (r.short n).e = 0 then ⟨r.l.drop n, 0⟩ else r.short n
def Rd.take (n : Nat) (r : Rd) : List UInt8 × Rd := (r.got n, r.past n)
def Rd.num (n : Nat) (r : Rd) : Nat × Rd := (CrcM.number (r.got n), r.past n)
def Rd.flag (r : Rd) : Bool × Rd := (decide ((Rd.num 1 r).1 = 1), if 1 < (Rd.num 1 r).1 then (Rd.num 1 r).2.fail 3 else (Rd.num 1 r).2)
/-- read on, by what was read -/
def Rd.bind {α β : Type} (X : Rd → α × Rd) (Y : α → Rd → β × Rd) (r : Rd) : (α × β) × Rd := (((X r).1, (Y (X r).1 (X r).2).1), (Y (X r).1 (X r).2).2)
def Rd.ret {α : Type} (a : α) (r : Rd) : α × Rd := (a, r)
structure LSlot where
  v : Nat
  l : Int
  h : List UInt8
def LSlot.zero : LSlot := ⟨0, 0, []⟩
def Rd.slot (r : Rd) : LSlot × Rd := if r.flag.1 then (⟨(Rd.num 4 r.flag.2).1, ((Rd.num 2 (Rd.num 4 r.flag.2).2).1 : Nat), (Rd.take 32 (Rd.num 2 (Rd.num 4 r.flag.2).2).2).1⟩, (Rd.take 32 (Rd.num 2 (Rd.num 4 r.flag.2).2).2).2) else (LSlot.zero, r.flag.2)
/-- what manifest.Read tells -/
def readM (l : List UInt8) : LMan := if l.length = 44 ∧ (manRead l).may = true then manRead l else LMan.zero
def readE (l : List UInt8) : Int := if l.length = 44 ∧ (manRead l).may = true then 0 else 3
def Rd.man (r : Rd) : LMan × Rd := (readM (r.got 44), (r.past 44).fail (readE (r.got 44)))
def Rd.now (r : Rd) : (Bool × LMan) × Rd := if r.flag.1 then ((true, r.flag.2.man.1), r.flag.2.man.2) else ((false, LMan.zero), r.flag.2)
structure Codec {α : Type} (X : Rd → α × Rd) (enc : α → List UInt8) (V : α → Prop) : Prop where
  fwd : ∀ v q, V v → X ⟨enc v ++ q, 0⟩ = (v, ⟨q, 0⟩)
  bwd : ∀ l, (X ⟨l, 0⟩).2.e = 0 → V (X ⟨l, 0⟩).1 ∧ l = enc (X ⟨l, 0⟩).1 ++ (X ⟨l, 0⟩).2.l
  cut : ∀ v p s, V v → enc v = p ++ s → s ≠ [] → (X ⟨p, 0⟩).2.e = 2
  err : ∀ l e, e ≠ 0 → (X ⟨l, e⟩).2.e = e
theorem take_err (n : Nat) (l : List UInt8) (e : Int) (h : e ≠ 0) : ((⟨l, e⟩ : Rd).past n).e = e := by
  simp only [Rd.past, Rd.short, Rd.fail]
  split <;> simp_all
theorem take_codec (n : Nat) : Codec (Rd.take n) id (fun v => v.length = n) := by
  refine ⟨fun v q h => ?_, fun l h => ?_, fun v p s h e hs => ?_, fun l e h => take_err n l e h⟩
  · have hn : ¬ (v ++ q).length < n := by simp; omega
    subst h
    simp only [Rd.take, Rd.got, Rd.past, Rd.short, if_neg hn, if_pos, List.take_left, List.drop_left, id]
  · by_cases hn : l.length < n
    · simp [Rd.take, Rd.past, Rd.short, Rd.fail, hn] at h
    · simp only [Rd.take, Rd.got, Rd.past, Rd.short, if_neg hn, if_pos, id]
      exact ⟨by simp; omega, (List.take_append_drop n l).symm⟩
  · have hn : p.length < n := by
      have e1 := congrArg List.length e
      have e2 : 0 < s.length := List.length_pos_iff.2 hs
      simp at e1; omega
    simp [Rd.take, Rd.past, Rd.short, Rd.fail, hn]
theorem rd_eta {r : Rd} {k : Int} (h : r.e = k) : r = ⟨r.l, k⟩ := by subst h; rfl
theorem Codec.map {α β : Type} {X : Rd → α × Rd} {enc : α → List UInt8} {V : α → Prop} (h : Codec X enc V) (f : α → β) (g : β → α) (V' : β → Prop) (h1 : ∀ a, V a → V' (f a) ∧ g (f a) = a) (h2 : ∀ b, V' b → V (g b) ∧ f (g b) = b) :
    Codec (fun r => (f (X r).1, (X r).2)) (fun b => enc (g b)) V' := by
  refine ⟨fun v q hv => ?_, fun l hl => ?_, fun v p s hv e hs => h.cut _ p s (h2 v hv).1 e hs, fun l e he => h.err l e he⟩
  · rw [h.fwd _ q (h2 v hv).1]; show (f (g v), _) = _; rw [(h2 v hv).2]
  · obtain ⟨k1, k2⟩ := h.bwd l hl
    refine ⟨(h1 _ k1).1, ?_⟩
    rw [(h1 _ k1).2]; exact k2
theorem Codec.bind {α β : Type} {X : Rd → α × Rd} {enc : α → List UInt8} {V : α → Prop} {Y : α → Rd → β × Rd} {ency : α → β → List UInt8} {W : α → β → Prop} (h : Codec X enc V) (hy : ∀ a, V a → Codec (Y a) (ency a) (W a)) (hye : ∀ a l e, e ≠ 0 → (Y a ⟨l, e⟩).2.e = e) :
    Codec (Rd.bind X Y) (fun v => enc v.1 ++ ency v.1 v.2) (fun v => V v.1 ∧ W v.1 v.2) := by
  refine ⟨fun v q hv => ?_, fun l hl => ?_, fun v p s hv e hs => ?_, fun l e he => ?_⟩
  · obtain ⟨a, b⟩ := v
    simp only [Rd.bind, List.append_assoc, h.fwd a _ hv.1, (hy a hv.1).fwd b q hv.2]
  · have hx : (X ⟨l, 0⟩).2.e = 0 := by
      refine Decidable.byContradiction fun hne => ?_
      have : (Rd.bind X Y ⟨l, 0⟩).2.e = (X ⟨l, 0⟩).2.e := hye _ (X ⟨l, 0⟩).2.l _ hne
      rw [hl] at this
      exact hne this.symm
    obtain ⟨k1, k2⟩ := h.bwd l hx
    have e2 : (X ⟨l, 0⟩).2 = ⟨(X ⟨l, 0⟩).2.l, 0⟩ := rd_eta hx
    have hl' : (Y (X ⟨l, 0⟩).1 ⟨(X ⟨l, 0⟩).2.l, 0⟩).2.e = 0 := by rw [← e2]; exact hl
    obtain ⟨k3, k4⟩ := (hy _ k1).bwd _ hl'
    rw [← e2] at k3 k4
    refine ⟨⟨k1, k3⟩, ?_⟩
    show l = (enc (X ⟨l, 0⟩).1 ++ ency (X ⟨l, 0⟩).1 (Y (X ⟨l, 0⟩).1 (X ⟨l, 0⟩).2).1) ++ (Y (X ⟨l, 0⟩).1 (X ⟨l, 0⟩).2).2.l
    rw [List.append_assoc, ← k4]; exact k2
  · obtain ⟨a, b⟩ := v
    have e' : enc a ++ ency a b = p ++ s := e
    rcases List.append_eq_append_iff.1 e' with ⟨c, hp, hb⟩ | ⟨c, ha, hb⟩
    · -- the first one whole
      have := (hy a hv.1).cut b c s hv.2 hb hs
      simp only [Rd.bind, hp, h.fwd a c hv.1]
      exact this
    · by_cases hc : c = []
      · subst hc
        rw [List.append_nil] at ha
        rw [List.nil_append] at hb
        have := (hy a hv.1).cut b [] s hv.2 hb.symm hs
        have hp : p = enc a ++ [] := by rw [List.append_nil]; exact ha.symm
        simp only [Rd.bind, hp, h.fwd a [] hv.1]
        exact this
      · have := h.cut a p c hv.1 ha hc
        show (Y (X ⟨p, 0⟩).1 (X ⟨p, 0⟩).2).2.e = 2
        have e2 : (X ⟨p, 0⟩).2 = ⟨(X ⟨p, 0⟩).2.l, 2⟩ := rd_eta this
        rw [e2]
        exact hye _ _ 2 (by decide)
  · have h1 := h.err l e he
    show (Y (X ⟨l, e⟩).1 (X ⟨l, e⟩).2).2.e = e
    rw [rd_eta h1]
    exact hye _ _ e he
theorem num1_codec : Codec (Rd.num 1) (fun v => [UInt8.ofNat v]) (fun v => v < 256) :=
  (take_codec 1).map CrcM.number (fun v => [UInt8.ofNat v]) _ (fun a h => by
    match a, h with
    | [x], _ =>
      have := CrcM.b_lt x
      simp only [CrcM.number, List.foldl_cons, List.foldl_nil]
      exact ⟨by omega, by simp⟩) (fun b h => ⟨rfl, by simp [CrcM.number]; omega⟩)
theorem num2_codec : Codec (Rd.num 2) (fun v => [UInt8.ofNat (v / 256), UInt8.ofNat v]) (fun v => v < 65536) :=
  (take_codec 2).map CrcM.number (fun v => [UInt8.ofNat (v / 256), UInt8.ofNat v]) _ (fun a h => by
    match a, h with
    | [x, y], _ =>
      have := CrcM.b_lt x
      have := CrcM.b_lt y
      simp only [CrcM.number, List.foldl_cons, List.foldl_nil]
      refine ⟨by omega, ?_⟩
      simp only [List.cons.injEq, and_true]
      refine ⟨?_, ?_⟩ <;> (apply UInt8.toNat_inj.1; simp; try omega)) (fun b h => ⟨rfl, by simp [CrcM.number]; omega⟩)
theorem num4_codec : Codec (Rd.num 4) CrcM.four (fun v => v < 4294967296) :=
  (take_codec 4).map CrcM.number CrcM.four _ (fun a h => ⟨num_lt4 h, four_num h⟩) (fun b h => ⟨rfl, CrcM.number_four b h⟩)
theorem flag_codec : Codec Rd.flag (fun b => [if b then 1 else 0]) (fun _ => True) := by
  refine ⟨fun v q _ => ?_, fun l hl => ?_, fun v p s _ e hs => ?_, fun l e he => ?_⟩
  · have h := num1_codec.fwd (if v then 1 else 0) q (by cases v <;> decide)
    have e1 : ([if v then 1 else 0] : List UInt8) = [UInt8.ofNat (if v then 1 else 0)] := by cases v <;> rfl
    rw [e1]
    unfold Rd.flag
    rw [h]
    cases v <;> rfl
  · have hx : (Rd.num 1 ⟨l, 0⟩).2.e = 0 := by
      refine Decidable.byContradiction fun hne => ?_
      have : (Rd.flag ⟨l, 0⟩).2.e = (Rd.num 1 ⟨l, 0⟩).2.e := by
        unfold Rd.flag Rd.fail
        split
        · simp only [if_neg hne]
        · rfl
      rw [hl] at this
      exact hne this.symm
    obtain ⟨k1, k2⟩ := num1_codec.bwd l hx
    have hle : ¬ 1 < (Rd.num 1 ⟨l, 0⟩).1 := fun h => by
      unfold Rd.flag Rd.fail at hl
      simp only [if_pos h, if_pos hx] at hl
      exact absurd hl (by decide)
    refine ⟨trivial, ?_⟩
    unfold Rd.flag
    simp only [if_neg hle]
    have : (if decide ((Rd.num 1 ⟨l, 0⟩).1 = 1) = true then (1 : UInt8) else 0) = UInt8.ofNat (Rd.num 1 ⟨l, 0⟩).1 := by
      rcases (by omega : (Rd.num 1 ⟨l, 0⟩).1 = 0 ∨ (Rd.num 1 ⟨l, 0⟩).1 = 1) with h | h <;> rw [h] <;> rfl
    rw [this]; exact k2
  · have hp : p = [] := by
      match p, s, hs, e with
      | [], _, _, _ => rfl
      | x :: p, [], hs, _ => exact absurd rfl hs
      | x :: p, y :: s, _, e => have := congrArg List.length e; simp at this
    subst hp
    rfl
  · have h := num1_codec.err l e he
    unfold Rd.flag Rd.fail
    split
    · have : ¬ (Rd.num 1 ⟨l, e⟩).2.e = 0 := by rw [h]; exact he
      simp only [if_neg this]; exact h
    · exact h
theorem ret_codec {α : Type} (a : α) : Codec (Rd.ret a) (fun _ => []) (fun v => v = a) :=
  ⟨fun v q h => by subst h; rfl, fun l _ => ⟨rfl, rfl⟩, fun v p s _ e hs => by
    have := List.append_eq_nil_iff.1 e.symm
    exact absurd this.2 hs, fun l e _ => rfl⟩
theorem Codec.congr {α : Type} {X X' : Rd → α × Rd} {enc enc' : α → List UInt8} {V V' : α → Prop} (h : Codec X enc V) (h1 : ∀ r, X' r = X r) (h2 : ∀ v, V v → enc' v = enc v) (h3 : ∀ v, V' v ↔ V v) : Codec X' enc' V' := by
  refine ⟨fun v q hv => ?_, fun l hl => ?_, fun v p s hv e hs => ?_, fun l e he => ?_⟩
  · rw [h1, h2 v ((h3 v).1 hv)]; exact h.fwd v q ((h3 v).1 hv)
  · rw [h1] at hl ⊢
    obtain ⟨k1, k2⟩ := h.bwd l hl
    exact ⟨(h3 _).2 k1, by rw [h2 _ k1]; exact k2⟩
  · rw [h1]; exact h.cut v p s ((h3 v).1 hv) (by rw [← h2 v ((h3 v).1 hv)]; exact e) hs
  · rw [h1]; exact h.err l e he
def Rd.slot3 (r : Rd) : LSlot × Rd := (fun v : Nat × Nat × List UInt8 => ⟨v.1, (v.2.1 : Nat), v.2.2⟩ : Nat × Nat × List UInt8 → LSlot) |> fun f => (f (Rd.bind (Rd.num 4) (fun _ => Rd.bind (Rd.num 2) fun _ => Rd.take 32) r).1, (Rd.bind (Rd.num 4) (fun _ => Rd.bind (Rd.num 2) fun _ => Rd.take 32) r).2)
def LSlot.full (s : LSlot) : Prop := s.v < 4294967296 ∧ 0 ≤ s.l ∧ s.l < 65536 ∧ s.h.length = 32
theorem slot3_codec : Codec Rd.slot3 (fun s => CrcM.four s.v ++ ([UInt8.ofNat (s.l.toNat / 256), UInt8.ofNat s.l.toNat] ++ s.h)) LSlot.full :=
  (num4_codec.bind (fun _ _ => num2_codec.bind (fun _ _ => take_codec 32) (fun _ l e h => (take_codec 32).err l e h)) (fun _ l e h => (num2_codec.bind (fun _ _ => take_codec 32) (fun _ l e h => (take_codec 32).err l e h)).err l e h)).map
    (fun v : Nat × Nat × List UInt8 => (⟨v.1, (v.2.1 : Nat), v.2.2⟩ : LSlot)) (fun s => (s.v, s.l.toNat, s.h)) LSlot.full
    (fun a h => ⟨⟨h.1, by simp, by have := h.2.1; show ((a.2.1 : Nat) : Int) < 65536; omega, h.2.2⟩, by simp⟩)
    (fun b h => ⟨⟨h.1, by have := h.2.1; have := h.2.2.1; show b.l.toNat < 65536; omega, h.2.2.2⟩, by
      obtain ⟨v, l, h'⟩ := b
      have h2 : 0 ≤ l := h.2.1
      simp only [LSlot.mk.injEq, true_and, and_true]
      show ((l.toNat : Nat) : Int) = l
      omega⟩)
def LSlot.none (s : LSlot) : Bool := emptyB s.v s.l s.h
theorem LSlot.none_iff (s : LSlot) : s.none = true ↔ s = LSlot.zero := by
  obtain ⟨v, l, h⟩ := s
  simp [LSlot.none, emptyB, LSlot.zero]
theorem LSlot.full_not {s : LSlot} (h : s.full) : s.none = false := by
  cases hn : s.none with
  | false => rfl
  | true =>
    have := (LSlot.none_iff s).1 hn
    subst this
    exact absurd h.2.2.2 (by decide)
def LSlot.bytes (s : LSlot) : List UInt8 := if s.none then [0] else 1 :: (CrcM.four s.v ++ [UInt8.ofNat (s.l.toNat / 256), UInt8.ofNat s.l.toNat] ++ s.h)
def LSlot.ok (s : LSlot) : Prop := s = LSlot.zero ∨ s.full
theorem slot_codec : Codec Rd.slot LSlot.bytes LSlot.ok := by
  have h := (flag_codec.bind (Y := fun b => if b then Rd.slot3 else Rd.ret LSlot.zero) (ency := fun b s => if b then CrcM.four s.v ++ ([UInt8.ofNat (s.l.toNat / 256), UInt8.ofNat s.l.toNat] ++ s.h) else []) (W := fun b s => if b then s.full else s = LSlot.zero)
    (fun b _ => by cases b; exact ret_codec _; exact slot3_codec) (fun b l e he => by cases b; exact (ret_codec LSlot.zero).err l e he; exact slot3_codec.err l e he)).map
    (fun v : Bool × LSlot => v.2) (fun s => (!s.none, s)) LSlot.ok
    (fun a ha => by
      obtain ⟨b, s⟩ := a
      cases b with
      | false => have e : s = LSlot.zero := ha.2; subst e; exact ⟨.inl rfl, rfl⟩
      | true => have e : s.full := ha.2; exact ⟨.inr e, by rw [LSlot.full_not e]; rfl⟩)
    (fun s hs => by
      refine ⟨⟨trivial, ?_⟩, rfl⟩
      rcases hs with rfl | hs
      · rfl
      · rw [LSlot.full_not hs]; exact hs)
  refine h.congr (fun r => ?_) (fun v hv => ?_) (fun v => Iff.rfl)
  · unfold Rd.slot Rd.bind
    cases r.flag.1 <;> rfl
  · unfold LSlot.bytes
    cases hn : v.none <;> simp
def LMan.ok (M : LMan) : Prop := M.may = true ∧ M.s < 4294967296 ∧ M.v < 4294967296
theorem may_32 {M : LMan} (h : M.may = true) : M.h.length = 32 := by
  obtain ⟨_, _, _, _, _, _, _, _, _, _, _, h32⟩ := man_bounds h
  exact h32
theorem readM_bytes {M : LMan} (h : M.ok) : readM M.bytes = M ∧ readE M.bytes = 0 := by
  have e := manRead_bytes M h.2.1 h.2.2 h.1
  have k : M.bytes.length = 44 ∧ (manRead M.bytes).may = true := ⟨by rw [bytes_len, may_32 h.1], by rw [e]; exact h.1⟩
  unfold readM readE
  rw [if_pos k, if_pos k]
  exact ⟨e, rfl⟩
theorem man_codec : Codec Rd.man LMan.bytes LMan.ok := by
  refine ⟨fun v q hv => ?_, fun l hl => ?_, fun v p s hv e hs => ?_, fun l e he => ?_⟩
  · have h := (take_codec 44).fwd v.bytes q (by rw [bytes_len, may_32 hv.1])
    have e1 : (⟨v.bytes ++ q, 0⟩ : Rd).got 44 = v.bytes := congrArg Prod.fst h
    have e2 : (⟨v.bytes ++ q, 0⟩ : Rd).past 44 = ⟨q, 0⟩ := congrArg Prod.snd h
    show Rd.man ⟨v.bytes ++ q, 0⟩ = _
    unfold Rd.man
    rw [e1, e2, (readM_bytes hv).1, (readM_bytes hv).2]
    rfl
  · have hx : ((⟨l, 0⟩ : Rd).past 44).e = 0 := by
      refine Decidable.byContradiction fun hne => ?_
      have : (Rd.man ⟨l, 0⟩).2.e = ((⟨l, 0⟩ : Rd).past 44).e := by
        show (Rd.fail _ _).e = _
        unfold Rd.fail
        rw [if_neg hne]
      rw [hl] at this
      exact hne this.symm
    have hb := (take_codec 44).bwd l hx
    have hg : ((⟨l, 0⟩ : Rd).got 44).length = 44 := hb.1
    have hr : readE ((⟨l, 0⟩ : Rd).got 44) = 0 := by
      have : (Rd.fail ((⟨l, 0⟩ : Rd).past 44) (readE ((⟨l, 0⟩ : Rd).got 44))).e = 0 := hl
      unfold Rd.fail at this
      rw [if_pos hx] at this
      exact this
    have hk : ((⟨l, 0⟩ : Rd).got 44).length = 44 ∧ (manRead ((⟨l, 0⟩ : Rd).got 44)).may = true := by
      unfold readE at hr
      split at hr
      · assumption
      · exact absurd hr (by decide)
    have hm : (Rd.man ⟨l, 0⟩).1 = manRead ((⟨l, 0⟩ : Rd).got 44) := by
      show readM _ = _
      unfold readM
      rw [if_pos hk]
    have hp : (Rd.man ⟨l, 0⟩).2.l = ((⟨l, 0⟩ : Rd).past 44).l := by
      show (Rd.fail _ _).l = _
      unfold Rd.fail
      rw [if_pos hx]
    rw [hm, hp, bytes_manRead hg]
    obtain ⟨b1, b2, _⟩ := read_bounds hg
    exact ⟨⟨hk.2, b1, b2⟩, hb.2⟩
  · have hl : v.bytes.length = 44 := by rw [bytes_len, may_32 hv.1]
    have := (take_codec 44).cut v.bytes p s hl e hs
    have h2 : ((⟨p, 0⟩ : Rd).past 44).e = 2 := this
    show (Rd.fail _ _).e = 2
    unfold Rd.fail
    rw [if_neg (by rw [h2]; decide)]
    exact h2
  · have h2 := take_err 44 l e he
    show (Rd.fail _ _).e = e
    unfold Rd.fail
    rw [if_neg (by rw [h2]; exact he)]
    exact h2
def nowOk (v : Bool × LMan) : Prop := if v.1 then v.2.ok else v.2 = LMan.zero
theorem now_codec : Codec Rd.now (fun v => (if v.1 then (1 : UInt8) else 0) :: (if v.1 then v.2.bytes else [])) nowOk := by
  have h := (flag_codec.bind (Y := fun b => if b then Rd.man else Rd.ret LMan.zero) (ency := fun b s => if b then s.bytes else []) (W := fun b s => if b then s.ok else s = LMan.zero)
    (fun b _ => by cases b; exact ret_codec _; exact man_codec) (fun b l e he => by cases b; exact (ret_codec LMan.zero).err l e he; exact man_codec.err l e he))
  refine h.congr (fun r => ?_) (fun v hv => rfl) (fun v => ⟨fun h => ⟨trivial, h⟩, fun h => h.2⟩)
  unfold Rd.now Rd.bind
  cases hf : r.flag.1 <;> rfl
def Rd.parts : Rd → (Nat × Nat × Nat × Nat × LSlot × LSlot × Bool × LMan) × Rd :=
  Rd.bind (Rd.num 1) fun _ => Rd.bind (Rd.num 1) fun _ => Rd.bind (Rd.num 4) fun _ => Rd.bind (Rd.num 4) fun _ => Rd.bind Rd.slot fun _ => Rd.bind Rd.slot fun _ => Rd.now
def mkSt (v : Nat × Nat × Nat × Nat × LSlot × LSlot × Bool × LMan) : LSt := ⟨v.1, v.2.1, v.2.2.1, v.2.2.2.1, v.2.2.2.2.1.v, v.2.2.2.2.1.l, v.2.2.2.2.1.h, v.2.2.2.2.2.1.v, v.2.2.2.2.2.1.l, v.2.2.2.2.2.1.h, v.2.2.2.2.2.2.1, v.2.2.2.2.2.2.2⟩
def LSt.s0 (L : LSt) : LSlot := ⟨L.v0, L.l0, L.h0⟩
def LSt.s1 (L : LSt) : LSlot := ⟨L.v1, L.l1, L.h1⟩
def LSt.ok (L : LSt) : Prop := 0 ≤ L.act ∧ L.act < 256 ∧ 0 ≤ L.trial ∧ L.trial < 256 ∧ L.flo < 4294967296 ∧ L.gen < 4294967296 ∧ L.s0.ok ∧ L.s1.ok ∧ nowOk (L.on, L.m)
def LSt.bytes (L : LSt) : List UInt8 := [UInt8.ofNat L.act.toNat, UInt8.ofNat L.trial.toNat] ++ CrcM.four L.flo ++ CrcM.four L.gen ++ L.s0.bytes ++ L.s1.bytes ++ (if L.on then 1 :: L.m.bytes else [0])
def Rd.state (r : Rd) : LSt × Rd := (mkSt r.parts.1, r.parts.2)
theorem state_codec : Codec Rd.state LSt.bytes LSt.ok := by
  have c6 := slot_codec.bind (fun _ _ => now_codec) (fun _ l e h => now_codec.err l e h)
  have c5 := slot_codec.bind (fun _ _ => c6) (fun _ l e h => c6.err l e h)
  have c4 := num4_codec.bind (fun _ _ => c5) (fun _ l e h => c5.err l e h)
  have c3 := num4_codec.bind (fun _ _ => c4) (fun _ l e h => c4.err l e h)
  have c2 := num1_codec.bind (fun _ _ => c3) (fun _ l e h => c3.err l e h)
  have c1 := num1_codec.bind (fun _ _ => c2) (fun _ l e h => c2.err l e h)
  have h := c1.map mkSt (fun L => (L.act.toNat, L.trial.toNat, L.flo, L.gen, L.s0, L.s1, L.on, L.m)) LSt.ok
    (fun a ha => by
      obtain ⟨a1, a2, a3, a4, a5, a6, a7, a8⟩ := a
      obtain ⟨h1, h2, h3, h4, h5, h6, h7⟩ := ha
      refine ⟨⟨by simp [mkSt], ?_, by simp [mkSt], ?_, h3, h4, h5, h6, h7⟩, ?_⟩
      · show ((a1 : Nat) : Int) < 256; have : a1 < 256 := h1; omega
      · show ((a2 : Nat) : Int) < 256; have : a2 < 256 := h2; omega
      · simp [mkSt, LSt.s0, LSt.s1])
    (fun L hL => by
      obtain ⟨h1, h2, h3, h4, h5, h6, h7, h8, h9⟩ := hL
      refine ⟨⟨?_, ?_, h5, h6, h7, h8, h9⟩, ?_⟩
      · show L.act.toNat < 256; omega
      · show L.trial.toNat < 256; omega
      · obtain ⟨act, trial, flo, gen, v0, l0, h0, v1, l1, h1', on, m⟩ := L
        simp only [mkSt, LSt.s0, LSt.s1, LSt.mk.injEq, and_true, true_and]
        simp only at h1 h3
        exact ⟨by omega, by omega⟩)
  refine h.congr (fun r => rfl) (fun L hL => ?_) (fun v => Iff.rfl)
  unfold LSt.bytes
  cases L.on <;> simp
/-- what Parse tells -/
def parseL (l : List UInt8) : LSt := if (Rd.state ⟨l, 0⟩).2.e = 0 ∧ (Rd.state ⟨l, 0⟩).2.l = [] ∧ (Rd.state ⟨l, 0⟩).1.may = true then (Rd.state ⟨l, 0⟩).1 else LSt.zero
def parseE (l : List UInt8) : Int := if (Rd.state ⟨l, 0⟩).2.e = 0 then (if (Rd.state ⟨l, 0⟩).2.l = [] ∧ (Rd.state ⟨l, 0⟩).1.may = true then 0 else 3) else (Rd.state ⟨l, 0⟩).2.e
end Go.Proofs.Ytdipccjgpkedhaa
