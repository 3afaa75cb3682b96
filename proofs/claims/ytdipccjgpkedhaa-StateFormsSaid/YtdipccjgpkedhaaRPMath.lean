/- The reference's ParseState reads what state.Parse reads: mathematics. -/
import Derived.Test.YtdipccjgpkedhaaRdMath
namespace Go.Proofs.Ytdipccjgpkedhaa
/-- two readings with the same errors, and the same in all where there is none -/
def Sim {α : Type} (X Y : α × Rd) : Prop := X.2.e = Y.2.e ∧ (X.2.e = 0 → X = Y)
theorem Sim.refl {α : Type} (X : α × Rd) : Sim X X := ⟨rfl, fun _ => rfl⟩
theorem Sim.map {α β : Type} {X Y : α × Rd} (h : Sim X Y) (f : α → β) : Sim (f X.1, X.2) (f Y.1, Y.2) :=
  ⟨h.1, fun he => by rw [h.2 he]⟩
/-- errors stay -/
def Errs {α : Type} (F : Rd → α × Rd) : Prop := ∀ r, r.e ≠ 0 → (F r).2.e = r.e
theorem Sim.bind {α β : Type} {X Y : α × Rd} (h : Sim X Y) {F G : α → Rd → β × Rd} (hs : ∀ a r, r.e = 0 → Sim (F a r) (G a r)) (hF : ∀ a, Errs (F a)) (hG : ∀ a, Errs (G a)) :
    Sim ((X.1, (F X.1 X.2).1), (F X.1 X.2).2) ((Y.1, (G Y.1 Y.2).1), (G Y.1 Y.2).2) := by
  by_cases he : X.2.e = 0
  · rw [h.2 he]
    have h1 := hs Y.1 Y.2 (h.1 ▸ he)
    refine ⟨h1.1, fun h2 => ?_⟩
    have := h1.2 h2
    rw [this]
  · have he' : Y.2.e ≠ 0 := h.1 ▸ he
    have e1 := hF X.1 X.2 he
    have e2 := hG Y.1 Y.2 he'
    refine ⟨by show (F X.1 X.2).2.e = (G Y.1 Y.2).2.e; rw [e1, e2, h.1], fun h2 => ?_⟩
    exact absurd (e1.symm.trans h2) he
theorem take_errs (n : Nat) : Errs (Rd.take n) := fun r h => take_err n r.l r.e h
theorem num_errs (n : Nat) : Errs (Rd.num n) := fun r h => take_err n r.l r.e h
theorem flag_errs : Errs Rd.flag := fun r h => flag_codec.err r.l r.e h
theorem take_zero {n : Nat} {l : List UInt8} (h : n ≤ l.length) : Rd.take n ⟨l, 0⟩ = (l.take n, ⟨l.drop n, 0⟩) := by
  simp [Rd.take, Rd.got, Rd.past, Rd.short, Nat.not_lt.2 h]
theorem take_less {n : Nat} {l : List UInt8} (h : l.length < n) : (Rd.take n ⟨l, 0⟩).2 = ⟨l, 2⟩ := by
  simp [Rd.take, Rd.past, Rd.short, Rd.fail, h]
/-- so many bytes at once, or in two parts -/
theorem take_two (a b : Nat) (r : Rd) (h : r.e = 0) : Sim (Rd.take (a + b) r) ((((Rd.take a r).1 ++ (Rd.take b (Rd.take a r).2).1)), (Rd.take b (Rd.take a r).2).2) := by
  obtain ⟨l, e⟩ := r
  dsimp only at h
  subst h
  by_cases h1 : l.length < a
  · have e1 := take_less h1
    have e2 := take_less (l := l) (n := a + b) (by omega)
    rw [e1]
    refine ⟨?_, fun h0 => ?_⟩
    · rw [e2]; exact (take_err b l 2 (by decide)).symm
    · rw [e2] at h0; exact absurd (show (2 : Int) = 0 from h0) (by decide)
  · rw [take_zero (Nat.not_lt.1 h1)]
    by_cases h2 : l.length < a + b
    · have e2 := take_less h2
      have e3 := take_less (l := l.drop a) (n := b) (by rw [List.length_drop]; omega)
      dsimp only
      refine ⟨by rw [e2, e3], fun h0 => ?_⟩
      rw [e2] at h0; exact absurd (show (2 : Int) = 0 from h0) (by decide)
    · rw [take_zero (Nat.not_lt.1 h2)]
      dsimp only
      rw [take_zero (l := l.drop a) (n := b) (by rw [List.length_drop]; omega)]
      dsimp only
      rw [List.drop_drop, ← List.take_add]
      exact Sim.refl _
theorem Sim.trans {α : Type} {X Y Z : α × Rd} (h : Sim X Y) (h2 : Sim Y Z) : Sim X Z := ⟨h.1.trans h2.1, fun e => (h.2 e).trans (h2.2 (h.1 ▸ e))⟩
theorem Sim.of_err {α : Type} {X Y : α × Rd} {k : Int} (hk : k ≠ 0) (h : X.2.e = k) (h2 : Y.2.e = k) : Sim X Y := ⟨h.trans h2.symm, fun e => absurd (h.symm.trans e) hk⟩
theorem got_len2 (r : Rd) (n : Nat) : (r.got n).length = n := by
  unfold Rd.got
  by_cases h : (r.short n).e = 0
  · rw [if_pos h, List.length_take]
    unfold Rd.short at h
    by_cases hlt : r.l.length < n
    · exfalso
      rw [if_pos hlt] at h
      unfold Rd.fail at h
      by_cases he : r.e = 0
      · rw [if_pos he] at h; exact absurd (show (2 : Int) = 0 from h) (by decide)
      · rw [if_neg he] at h; exact he h
    · omega
  · rw [if_neg h, List.length_replicate]
/-- the reference's reading of two bytes -/
def Rd.two2 (r : Rd) : (Nat × Nat) × Rd := ((((r.got 2).getD 0 0).toNat, ((r.got 2).getD 1 0).toNat), r.past 2)
theorem two2_sim (r : Rd) (h : r.e = 0) : Sim r.two2 (((Rd.num 1 r).1, (Rd.num 1 (Rd.num 1 r).2).1), (Rd.num 1 (Rd.num 1 r).2).2) := by
  have h1 := (take_two 1 1 r h).map (fun y : List UInt8 => ((y.getD 0 0).toNat, (y.getD 1 0).toNat))
  refine h1.trans ?_
  have ha := got_len2 r 1
  have hb := got_len2 (r.past 1) 1
  have e1 : (Rd.take 1 r).1 = r.got 1 := rfl
  have e2 : (Rd.take 1 (Rd.take 1 r).2).1 = (r.past 1).got 1 := rfl
  have e3 : (Rd.num 1 r).1 = CrcM.number (r.got 1) := rfl
  have e4 : (Rd.num 1 (Rd.num 1 r).2).1 = CrcM.number ((r.past 1).got 1) := rfl
  rw [e1, e2, e3, e4]
  match hA : r.got 1, hB : (r.past 1).got 1, ha, hb with
  | [a], [b], _, _ =>
    have n1 : ∀ x : UInt8, CrcM.number [x] = x.toNat := fun x => by simp [CrcM.number]
    rw [n1, n1]
    exact Sim.refl _
def slotOf (y : List UInt8) : LSlot := ⟨CrcM.number (y.take 4), (CrcM.number ((y.drop 4).take 2) : Nat), y.drop 6⟩
/-- the reference's reading of a slot -/
def Rd.slot2 (r : Rd) : LSlot × Rd := if r.flag.1 then (slotOf (r.flag.2.got 38), r.flag.2.past 38) else (LSlot.zero, r.flag.2)
theorem slot38_sim (q : Rd) : Sim (slotOf (q.got 38), q.past 38) (⟨(Rd.num 4 q).1, ((Rd.num 2 (Rd.num 4 q).2).1 : Nat), (Rd.take 32 (Rd.num 2 (Rd.num 4 q).2).2).1⟩, (Rd.take 32 (Rd.num 2 (Rd.num 4 q).2).2).2) := by
  by_cases hq : q.e = 0
  · have h1 := take_two 4 34 q hq
    have h2 : Sim (((Rd.take 4 q).1, (Rd.take 34 (Rd.take 4 q).2).1), (Rd.take 34 (Rd.take 4 q).2).2) (((Rd.take 4 q).1, ((Rd.take 2 (Rd.take 4 q).2).1 ++ (Rd.take 32 (Rd.take 2 (Rd.take 4 q).2).2).1)), (Rd.take 32 (Rd.take 2 (Rd.take 4 q).2).2).2) :=
      Sim.bind (Sim.refl (Rd.take 4 q)) (F := fun _ r => Rd.take 34 r) (G := fun _ r => ((Rd.take 2 r).1 ++ (Rd.take 32 (Rd.take 2 r).2).1, (Rd.take 32 (Rd.take 2 r).2).2)) (fun _ r hr => take_two 2 32 r hr) (fun _ => take_errs 34)
        (fun _ r hr => by
          have e1 : (Rd.take 2 r).2.e = r.e := take_errs 2 r hr
          have e2 := take_errs 32 (Rd.take 2 r).2 (by rw [e1]; exact hr)
          exact e2.trans e1)
    have h3 := (h1.map slotOf).trans ((h2.map (fun v : List UInt8 × List UInt8 => slotOf (v.1 ++ v.2))))
    refine Sim.trans h3 ?_
    have l4 : (Rd.take 4 q).1.length = 4 := got_len2 q 4
    have l2 : (Rd.take 2 (Rd.take 4 q).2).1.length = 2 := got_len2 _ 2
    have es : slotOf ((Rd.take 4 q).1 ++ ((Rd.take 2 (Rd.take 4 q).2).1 ++ (Rd.take 32 (Rd.take 2 (Rd.take 4 q).2).2).1)) = ⟨CrcM.number (Rd.take 4 q).1, (CrcM.number (Rd.take 2 (Rd.take 4 q).2).1 : Nat), (Rd.take 32 (Rd.take 2 (Rd.take 4 q).2).2).1⟩ := by
      generalize (Rd.take 32 (Rd.take 2 (Rd.take 4 q).2).2).1 = C
      generalize (Rd.take 2 (Rd.take 4 q).2).1 = B at l2
      generalize (Rd.take 4 q).1 = A at l4
      unfold slotOf
      congr 1
      · rw [List.take_append_of_le_length (by omega), List.take_of_length_le (by omega)]
      · rw [List.drop_append, List.drop_of_length_le (by omega), List.nil_append, l4, List.drop_zero, List.take_append_of_le_length (by omega), List.take_of_length_le (by omega)]
      · rw [List.drop_append, List.drop_of_length_le (by omega), List.nil_append, l4, List.drop_append, List.drop_of_length_le (by omega), List.nil_append, l2, List.drop_zero]
    dsimp only
    rw [es]
    exact Sim.refl _
  · have e4 : (Rd.num 4 q).2.e = q.e := num_errs 4 q hq
    have e2 : (Rd.num 2 (Rd.num 4 q).2).2.e = q.e := (num_errs 2 _ (by rw [e4]; exact hq)).trans e4
    refine Sim.of_err hq (take_errs 38 q hq) ?_
    exact (take_errs 32 _ (by rw [e2]; exact hq)).trans e2
theorem slot2_sim (r : Rd) : Sim r.slot2 r.slot := by
  unfold Rd.slot2 Rd.slot
  cases r.flag.1 with
  | false => exact Sim.refl _
  | true => exact slot38_sim r.flag.2
theorem slot_errs : Errs Rd.slot := fun r h => slot_codec.err r.l r.e h
theorem slot2_errs : Errs Rd.slot2 := fun r h => (slot2_sim r).1.trans (slot_errs r h)
theorem now_errs : Errs Rd.now := fun r h => now_codec.err r.l r.e h
theorem bind_errs {α β : Type} {X : Rd → α × Rd} {F : α → Rd → β × Rd} (h : Errs X) (hF : ∀ a, Errs (F a)) : Errs (Rd.bind X F) := fun r hr => by
  have e1 := h r hr
  exact (hF _ _ (by rw [e1]; exact hr)).trans e1
theorem bind_sim {α β : Type} {X Y : Rd → α × Rd} {F G : α → Rd → β × Rd} (h : ∀ r, r.e = 0 → Sim (X r) (Y r)) (hs : ∀ a r, r.e = 0 → Sim (F a r) (G a r)) (hF : ∀ a, Errs (F a)) (hG : ∀ a, Errs (G a)) (r : Rd) (hr : r.e = 0) : Sim (Rd.bind X F r) (Rd.bind Y G r) :=
  Sim.bind (h r hr) hs hF hG
/-- behind the first two bytes -/
def Rd.tail1 : Rd → (Nat × Nat × LSlot × LSlot × Bool × LMan) × Rd := Rd.bind (Rd.num 4) fun _ => Rd.bind (Rd.num 4) fun _ => Rd.bind Rd.slot fun _ => Rd.bind Rd.slot fun _ => Rd.now
def Rd.tail2 : Rd → (Nat × Nat × LSlot × LSlot × Bool × LMan) × Rd := Rd.bind (Rd.num 4) fun _ => Rd.bind (Rd.num 4) fun _ => Rd.bind Rd.slot2 fun _ => Rd.bind Rd.slot2 fun _ => Rd.now
theorem tail_errs : Errs Rd.tail1 := bind_errs (num_errs 4) fun _ => bind_errs (num_errs 4) fun _ => bind_errs slot_errs fun _ => bind_errs slot_errs fun _ => now_errs
theorem tail2_errs : Errs Rd.tail2 := bind_errs (num_errs 4) fun _ => bind_errs (num_errs 4) fun _ => bind_errs slot2_errs fun _ => bind_errs slot2_errs fun _ => now_errs
theorem tail_sim (r : Rd) (hr : r.e = 0) : Sim r.tail2 r.tail1 := by
  refine bind_sim (fun r _ => Sim.refl _) (fun _ => bind_sim (fun r _ => Sim.refl _) (fun _ => bind_sim (fun r _ => slot2_sim r) (fun _ => bind_sim (fun r _ => slot2_sim r) (fun _ r _ => Sim.refl _) (fun _ => now_errs) (fun _ => now_errs)) (fun _ => bind_errs slot2_errs fun _ => now_errs) (fun _ => bind_errs slot_errs fun _ => now_errs)) (fun _ => bind_errs slot2_errs fun _ => bind_errs slot2_errs fun _ => now_errs) (fun _ => bind_errs slot_errs fun _ => bind_errs slot_errs fun _ => now_errs)) (fun _ => bind_errs (num_errs 4) fun _ => bind_errs slot2_errs fun _ => bind_errs slot2_errs fun _ => now_errs) (fun _ => bind_errs (num_errs 4) fun _ => bind_errs slot_errs fun _ => bind_errs slot_errs fun _ => now_errs) r hr
def Rd.parts2 (r : Rd) : (Nat × Nat × Nat × Nat × LSlot × LSlot × Bool × LMan) × Rd := ((r.two2.1.1, r.two2.1.2, r.two2.2.tail2.1), r.two2.2.tail2.2)
theorem parts_eq (r : Rd) : r.parts = (((Rd.num 1 r).1, (Rd.num 1 (Rd.num 1 r).2).1, (Rd.tail1 (Rd.num 1 (Rd.num 1 r).2).2).1), (Rd.tail1 (Rd.num 1 (Rd.num 1 r).2).2).2) := by
  simp only [Rd.parts, Rd.tail1, Rd.bind]
theorem parts_gen {β : Type} {T1 T2 : Rd → β × Rd} (ht : ∀ r, r.e = 0 → Sim (T2 r) (T1 r)) (e1 : Errs T1) (e2 : Errs T2) {X : (Nat × Nat) × Rd} {a b : Nat} {r2 : Rd} (h0 : Sim X ((a, b), r2)) :
    Sim ((X.1.1, X.1.2, (T2 X.2).1), (T2 X.2).2) ((a, b, (T1 r2).1), (T1 r2).2) :=
  (Sim.bind h0 (F := fun _ => T2) (G := fun _ => T1) (fun _ r hr => ht r hr) (fun _ => e2) (fun _ => e1)).map (fun v : (Nat × Nat) × β => (v.1.1, v.1.2, v.2))
theorem parts_sim (r : Rd) (hr : r.e = 0) : Sim r.parts2 r.parts := by
  have h := parts_gen tail_sim tail_errs tail2_errs (two2_sim r hr)
  rw [parts_eq]
  exact h
/-- what the reference's ParseState tells -/
def parse2L (l : List UInt8) : LSt := if (Rd.parts2 ⟨l, 0⟩).2.e = 0 ∧ (Rd.parts2 ⟨l, 0⟩).2.l = [] ∧ (mkSt (Rd.parts2 ⟨l, 0⟩).1).may = true then mkSt (Rd.parts2 ⟨l, 0⟩).1 else LSt.zero
def parse2E (l : List UInt8) : Int := if (Rd.parts2 ⟨l, 0⟩).2.e = 0 then (if (Rd.parts2 ⟨l, 0⟩).2.l = [] ∧ (mkSt (Rd.parts2 ⟨l, 0⟩).1).may = true then 0 else 3) else (Rd.parts2 ⟨l, 0⟩).2.e
theorem parse2_is (l : List UInt8) : parse2L l = parseL l ∧ parse2E l = parseE l := by
  have h := parts_sim ⟨l, 0⟩ rfl
  unfold parse2L parse2E parseL parseE Rd.state
  generalize Rd.parts2 ⟨l, 0⟩ = X at h ⊢
  generalize Rd.parts ⟨l, 0⟩ = Y at h ⊢
  by_cases he : X.2.e = 0
  · have := h.2 he
    subst this
    exact ⟨rfl, rfl⟩
  · have he2 : Y.2.e ≠ 0 := h.1 ▸ he
    dsimp only
    rw [if_neg (fun h => he h.1), if_neg (fun h => he2 h.1), if_neg he, if_neg he2]
    exact ⟨rfl, h.1⟩
end Go.Proofs.Ytdipccjgpkedhaa
