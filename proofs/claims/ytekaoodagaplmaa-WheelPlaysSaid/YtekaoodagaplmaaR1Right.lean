/- The reference's Right: by contracts. -/
import Derived.Test.YtekaoodagaplmaaR1Put
import Derived.BigQuiet
import Derived.WalkSpells
import Derived.WalkLawsBesides
import Derived.Deep.RegionHeld3
import Derived.Deep.QuietTactic
namespace Go.Proofs.Ytekaoodagaplmaa
open Go.RowKit
theorem wpAnyH_grow {P : Program} {md : Region.Mode} {ops : Array Oper} {Q : Exit → Act → World → Prop} {S S' : World → Prop} (h : ∀ w, S' w → S w) :
    ∀ (fuel : Nat) (listed : Array Bool) (a : Act) (w : World), wpAnyH P md ops Q S' fuel listed a w → wpAnyH P md ops Q S fuel listed a w
  | 0, _, _, _, hh => hh
  | fuel + 1, _, _, _, hh => ⟨hh.1, fun i hi => wpOp_mono (fun a' w' h' => ⟨h _ h'.1, wpAnyH_grow h fuel _ a' w' h'.2⟩) (hh.2 i hi)⟩
abbrev S0R (P : Program) (B : Nat) (w : World) (A : Option Addr) (k cap : Nat) (l : List UInt8) (W : World) : Prop :=
  Below B w W ∧ (convert 37 9 (.slice (A.map fun x => x.add k) 4 (cap - k))).run P W = .ok (.string ⟨(l.drop k).toArray⟩) W
abbrev S1R (P : Program) (B : Nat) (w : World) (A : Option Addr) (k cap : Nat) (l : List UInt8) (A1 : Option Addr) (n1 c1 : Nat) (f : List UInt8) (W : World) : Prop :=
  S0R P B w A k cap l W ∧ (convert 37 9 (.slice A1 n1 c1)).run P W = .ok (.string ⟨f.toArray⟩) W
set_option maxHeartbeats 1600000 in
theorem r1right_no (B n cap : Nat) (A : Option Addr) (l : List UInt8) (w : World) (hl : Row w B A n (bv l)) (hn : n ≤ cap) (_ : cap ≤ 9223372036854775807) (hs : n ≤ 1000000000) (hB : B ≤ w.heap.size) (hR : ¬ isRight l) :
    Calls Try.prog 27 #[.slice A n cap] w (RightNo w) := by
  have HR := Lib.hid hR
  clear hR
  by_cases h4 : n < 4
  · have hg : decide ((n : Int) - 4 < 0) = true := by simp; omega
    go_enter Try.func27, Try.ntmps27
    go_wp2
    go_quiet (fail)
    go_wp2
    go_ret2
    exact ⟨rfl, below_drewN (Below.refl _ _) nq⟩
  · have hbl := hl.blen
    obtain ⟨k, rfl⟩ : ∃ k, n = k + 4 := ⟨n - 4, by omega⟩
    have hne : ¬ r1eq l k := fun h => HR.out ((r1eq_iff l k hbl).1 h)
    have HL := Lib.hid hbl
    have HNE := Lib.hid hne
    have hk : (k : Int) ≤ cap := by omega
    have hb0 : Below B w w.drew := (Below.refl _ _).drew
    have hk2 : ∀ W, Below B w W → (convert 37 9 (.slice (A.map fun x => x.add k) 4 (cap - k))).run Try.prog W = .ok (.string ⟨(l.drop k).toArray⟩) W := by
      intro W hW
      exact run_string_row (show Row W B _ 4 (bv (l.drop k)) by rw [← bv_drop]; exact row_drop4 (hl.below hW)) _ _ _ 5 Try.underlying37 Try.underlying5 Try.underlying9
    have hg : decide ((k : Int) < 0) = false := by simp
    have hi2 : (k : Int) ≤ (k : Int) + 4 := by omega
    have hck : ¬ cap = k := by omega
    clear hbl hne
    go_enter Try.func27, Try.ntmps27
    go_wp2
    refine wp_region_noPanic ?_
    refine wp_region_held_drew (S := S0R Try.prog B w A k cap l) (by kernel_rfl) ⟨hb0, hk2 _ hb0⟩ (fun hHeld => ?_)
    refine wpAnyH_take (i := 0) (oi := { dst := some 8, op := Op.move (Operand.tmp 4), type := 3, pos := "ref.go:24", after := #[], guard := none }) (v := ?tkv0) rfl (by kernel_rfl) (by kernel_rfl) (by kernel_rfl) (fun _ _ _ h => h) (Or.inl ⟨by rfl, ?tky0⟩) (by assumption) ?tkr0
    case tky0 => (intro w' hSw; (try dsimp only at hSw); go_simp; try with_reducible rfl)
    try simp only [Act.put, List.setIfInBounds_toArray, List.set_cons_zero, List.set_cons_succ]
    refine wpAnyH_take (i := 1) (oi := { dst := some 9, op := Op.binOp BinOp.lss 3 (Operand.tmp 8) (Operand.const (Value.int IntKind.i64 0)) 3, type := 4, pos := "ref.go:24", after := #[{ on := 0, ground := Ground.data }], guard := none }) (v := ?tkv1) rfl (by kernel_rfl) (by kernel_rfl) (by kernel_rfl) (fun _ _ _ h => h) (Or.inl ⟨by rfl, ?tky1⟩) (by assumption) ?tkr1
    case tky1 => (intro w' hSw; (try dsimp only at hSw); go_simp; try with_reducible rfl)
    try simp only [Act.put, List.setIfInBounds_toArray, List.set_cons_zero, List.set_cons_succ]
    refine wpAnyH_take (i := 2) (oi := { dst := some 10, op := Op.move (Operand.tmp 9), type := 4, pos := "ref.go:24", after := #[{ on := 1, ground := Ground.data }], guard := none }) (v := ?tkv2) rfl (by kernel_rfl) (by kernel_rfl) (by kernel_rfl) (fun _ _ _ h => h) (Or.inl ⟨by rfl, ?tky2⟩) (by assumption) ?tkr2
    case tky2 => (intro w' hSw; (try dsimp only at hSw); go_simp; try with_reducible rfl)
    try simp only [Act.put, List.setIfInBounds_toArray, List.set_cons_zero, List.set_cons_succ]
    refine wpAnyH_take (i := 3) (oi := { dst := some 11, op := Op.move (Operand.tmp 0), type := 37, pos := "ref.go:24", after := #[{ on := 2, ground := Ground.guard }], guard := some (2, false) }) (v := ?tkv3) rfl (by kernel_rfl) (by kernel_rfl) (by kernel_rfl) (fun _ _ _ h => h) (Or.inl ⟨by rfl, ?tky3⟩) (by assumption) ?tkr3
    case tky3 => (intro w' hSw; (try dsimp only at hSw); go_simp; try with_reducible rfl)
    try simp only [Act.put, List.setIfInBounds_toArray, List.set_cons_zero, List.set_cons_succ]
    refine wpAnyH_take (i := 4) (oi := { dst := some 12, op := Op.move (Operand.tmp 4), type := 3, pos := "ref.go:24", after := #[{ on := 2, ground := Ground.guard }], guard := some (2, false) }) (v := ?tkv4) rfl (by kernel_rfl) (by kernel_rfl) (by kernel_rfl) (fun _ _ _ h => h) (Or.inl ⟨by rfl, ?tky4⟩) (by assumption) ?tkr4
    case tky4 => (intro w' hSw; (try dsimp only at hSw); go_simp; try with_reducible rfl)
    try simp only [Act.put, List.setIfInBounds_toArray, List.set_cons_zero, List.set_cons_succ]
    refine wpAnyH_take (i := 5) (oi := { dst := some 13, op := Op.slice 37 (Operand.tmp 11) none (some (Operand.tmp 12)) none, type := 37, pos := "ref.go:24", after := #[{ on := 3, ground := Ground.data }, { on := 4, ground := Ground.data }, { on := 2, ground := Ground.guard }], guard := some (2, false) }) (v := ?tkv5) rfl (by kernel_rfl) (by kernel_rfl) (by kernel_rfl) (fun _ _ _ h => h) (Or.inl ⟨by rfl, ?tky5⟩) (by assumption) ?tkr5
    case tky5 => (intro w' hSw; (try dsimp only at hSw); go_simp; try with_reducible rfl)
    try simp only [Act.put, List.setIfInBounds_toArray, List.set_cons_zero, List.set_cons_succ]
    refine wpAnyH_take (i := 9) (oi := { dst := some 17, op := Op.move (Operand.tmp 0), type := 37, pos := "ref.go:24", after := #[{ on := 2, ground := Ground.guard }], guard := some (2, false) }) (v := ?tkv9) rfl (by kernel_rfl) (by kernel_rfl) (by kernel_rfl) (fun _ _ _ h => h) (Or.inl ⟨by rfl, ?tky9⟩) (by assumption) ?tkr9
    case tky9 => (intro w' hSw; (try dsimp only at hSw); go_simp; try with_reducible rfl)
    try simp only [Act.put, List.setIfInBounds_toArray, List.set_cons_zero, List.set_cons_succ]
    refine wpAnyH_take (i := 10) (oi := { dst := some 18, op := Op.move (Operand.tmp 4), type := 3, pos := "ref.go:24", after := #[{ on := 2, ground := Ground.guard }], guard := some (2, false) }) (v := ?tkv10) rfl (by kernel_rfl) (by kernel_rfl) (by kernel_rfl) (fun _ _ _ h => h) (Or.inl ⟨by rfl, ?tky10⟩) (by assumption) ?tkr10
    case tky10 => (intro w' hSw; (try dsimp only at hSw); go_simp; try with_reducible rfl)
    try simp only [Act.put, List.setIfInBounds_toArray, List.set_cons_zero, List.set_cons_succ]
    refine wpAnyH_take (i := 11) (oi := { dst := some 19, op := Op.slice 37 (Operand.tmp 17) (some (Operand.tmp 18)) none none, type := 37, pos := "ref.go:24", after := #[{ on := 9, ground := Ground.data }, { on := 10, ground := Ground.data }, { on := 2, ground := Ground.guard }], guard := some (2, false) }) (v := ?tkv11) rfl (by kernel_rfl) (by kernel_rfl) (by kernel_rfl) (fun _ _ _ h => h) (Or.inl ⟨by rfl, ?tky11⟩) (by assumption) ?tkr11
    case tky11 => (intro w' hSw; (try dsimp only at hSw); go_simp; try with_reducible rfl)
    try simp only [Act.put, List.setIfInBounds_toArray, List.set_cons_zero, List.set_cons_succ]
    refine wpAnyH_take (i := 12) (oi := { dst := some 20, op := Op.convert 37 9 (Operand.tmp 19), type := 9, pos := "ref.go:24", after := #[{ on := 11, ground := Ground.data }, { on := 2, ground := Ground.guard }], guard := some (2, false) }) (v := ?tkv12) rfl (by kernel_rfl) (by kernel_rfl) (by kernel_rfl) (fun _ _ _ h => h) (Or.inl ⟨by rfl, ?tky12⟩) (by assumption) ?tkr12
    case tky12 => (intro w' hSw; (try dsimp only at hSw); go_simp; try with_reducible rfl)
    try simp only [Act.put, List.setIfInBounds_toArray, List.set_cons_zero, List.set_cons_succ]
    refine wpAnyH_ready (rs := [6]) (by kernel_rfl) (by simp) ?_
    refine AllReadyH.cons (o := { dst := some 14, op := Op.call { callee := Callee.value (Operand.func 45), args := #[Operand.tmp 13], argTypes := #[37] }, type := 22, pos := "ref.go:24", after := #[{ on := 5, ground := Ground.data }, { on := 2, ground := Ground.chain }, { on := 2, ground := Ground.guard }], guard := some (2, false) }) rfl (fun K hK => ?_) AllReadyH.nil
    go_simp
    refine (r1crc_any B k cap A (l.take k) _ ?_ (by omega)).mono ?_
    · rw [← bv_take]; exact (hl.head (by omega)).drew
    rintro e w' ⟨rfl, rfl⟩
    go_wp2_with fail
    refine hK.out _ _ hHeld (fun hHeld => ?_)
    clear hK K
    try simp only [Act.put, List.setIfInBounds_toArray, List.set_cons_zero, List.set_cons_succ]
    refine wpAnyH_ready (rs := [7]) (by kernel_rfl) (by simp) ?_
    refine AllReadyH.cons (o := { dst := some 15, op := Op.call { callee := Callee.value (Operand.func 39), args := #[Operand.tmp 14], argTypes := #[22] }, type := 37, pos := "ref.go:24", after := #[{ on := 6, ground := Ground.data }, { on := 6, ground := Ground.chain }, { on := 2, ground := Ground.guard }], guard := some (2, false) }) rfl (fun K hK => ?_) AllReadyH.nil
    go_simp
    refine (four_any (CrcM.sum (l.take k)) (CrcM.sum_lt _) _).mono ?_
    rintro e w1 ⟨A1, n1, c1, rfl, hn1, hown1, hb1⟩
    go_wp2_with fail
    have hb2 : Below B w w1 := hb0.trans (hb1.mono hB)
    refine hK.out _ _ ⟨hb2, hk2 _ hb2⟩ (fun hHeld => ?_)
    clear hK K
    try simp only [Act.put, List.setIfInBounds_toArray, List.set_cons_zero, List.set_cons_succ]
    have hS1 : S1R Try.prog B w A k cap l A1 n1 c1 (CrcM.four (CrcM.sum (l.take k))) w1 := ⟨⟨hb2, hk2 _ hb2⟩, run_string_row (Row.of_own hown1) c1 _ _ 5 Try.underlying37 Try.underlying5 Try.underlying9⟩
    refine wpAnyH_grow (S' := S1R Try.prog B w A k cap l A1 n1 c1 (CrcM.four (CrcM.sum (l.take k)))) (fun _ h => h.1) _ _ _ _ ?_
    clear hHeld
    refine wpAnyH_take (i := 8) (oi := { dst := some 16, op := Op.convert 37 9 (Operand.tmp 15), type := 9, pos := "ref.go:24", after := #[{ on := 7, ground := Ground.data }, { on := 2, ground := Ground.guard }], guard := some (2, false) }) (v := ?tkv8) rfl (by kernel_rfl) (by kernel_rfl) (by kernel_rfl) (fun _ _ _ h => h) (Or.inl ⟨by rfl, ?tky8⟩) (by assumption) ?tkr8
    case tky8 => (intro w' hSw; (try dsimp only at hSw); go_simp; try with_reducible rfl)
    try simp only [Act.put, List.setIfInBounds_toArray, List.set_cons_zero, List.set_cons_succ]
    refine wpAnyH_take (i := 13) (oi := { dst := some 21, op := Op.binOp BinOp.neq 9 (Operand.tmp 16) (Operand.tmp 20) 9, type := 4, pos := "ref.go:24", after := #[{ on := 8, ground := Ground.data }, { on := 12, ground := Ground.data }, { on := 2, ground := Ground.guard }], guard := some (2, false) }) (v := ?tkv13) rfl (by kernel_rfl) (by kernel_rfl) (by kernel_rfl) (fun _ _ _ h => h) (Or.inl ⟨by rfl, ?tky13⟩) (by assumption) ?tkr13
    case tky13 => (intro w' hSw; (try dsimp only at hSw); go_simp; try with_reducible rfl)
    try simp only [Act.put, List.setIfInBounds_toArray, List.set_cons_zero, List.set_cons_succ]
    refine wpAnyH_take (i := 14) (oi := { dst := some 22, op := Op.pick (Operand.tmp 10) (Operand.const (Value.bool true)) (Operand.tmp 21), type := 4, pos := "ref.go:24", after := #[{ on := 2, ground := Ground.data }, { on := 13, ground := Ground.data }], guard := none }) (v := ?tkv14) rfl (by kernel_rfl) (by kernel_rfl) (by kernel_rfl) (fun _ _ _ h => h) (Or.inl ⟨by rfl, ?tky14⟩) (by assumption) ?tkr14
    case tky14 => (intro w' hSw; (try dsimp only at hSw); go_simp; try with_reducible rfl)
    try simp only [Act.put, List.setIfInBounds_toArray, List.set_cons_zero, List.set_cons_succ]
    have hbv : (!(CrcM.four (CrcM.sum (l.take k)) == l.drop k)) = true := by rw [beq_eq_false_iff_ne.2 HNE.out]; rfl
    refine wpAnyH_done (by kernel_rfl) ?_ _
    refine NoPanic.normal ?_
    rw [hbv]
    have hbw : Below w.heap.size w w1 := (Below.refl w.heap.size w).drew.trans hb1
    clear hHeld hS1
    go_wp2
    go_ret2
    exact ⟨rfl, hbw⟩
set_option maxHeartbeats 1600000 in
theorem r1right_yes (B n cap : Nat) (A : Option Addr) (l : List UInt8) (w : World) (hl : Row w B A n (bv l)) (hn : n ≤ cap) (_ : cap ≤ 9223372036854775807) (hs : n ≤ 1000000000) (hB : B ≤ w.heap.size) (hR : isRight l) :
    Calls Try.prog 27 #[.slice A n cap] w (RightYes (l.take (l.length - 4)) w) := by
  obtain ⟨i0, hi, hz0, hz1, hz2⟩ := info_parts Try.info5
  have HR := Lib.hid hR
  clear hR
  have hbl := hl.blen
  obtain ⟨k, rfl⟩ : ∃ k, n = k + 4 := ⟨n - 4, by have := HR.out.1; omega⟩
  rw [hbl, show k + 4 - 4 = k by omega]
  have hne : r1eq l k := (r1eq_iff l k hbl).2 HR.out
  have HL := Lib.hid hbl
  have HNE := Lib.hid hne
  have hk : (k : Int) ≤ cap := by omega
  have hb0 : Below B w w.drew := (Below.refl _ _).drew
  have hk2 : ∀ W, Below B w W → (convert 37 9 (.slice (A.map fun x => x.add k) 4 (cap - k))).run Try.prog W = .ok (.string ⟨(l.drop k).toArray⟩) W := by
    intro W hW
    exact run_string_row (show Row W B _ 4 (bv (l.drop k)) by rw [← bv_drop]; exact row_drop4 (hl.below hW)) _ _ _ 5 Try.underlying37 Try.underlying5 Try.underlying9
  have hg : decide ((k : Int) < 0) = false := by simp
  have hi2 : (k : Int) ≤ (k : Int) + 4 := by omega
  have hck : ¬ cap = k := by omega
  clear hbl hne
  go_enter Try.func27, Try.ntmps27
  go_wp2
  refine wp_region_noPanic ?_
  refine wp_region_held_drew (S := S0R Try.prog B w A k cap l) (by kernel_rfl) ⟨hb0, hk2 _ hb0⟩ (fun hHeld => ?_)
  refine wpAnyH_take (i := 0) (oi := { dst := some 8, op := Op.move (Operand.tmp 4), type := 3, pos := "ref.go:24", after := #[], guard := none }) (v := ?tkv0) rfl (by kernel_rfl) (by kernel_rfl) (by kernel_rfl) (fun _ _ _ h => h) (Or.inl ⟨by rfl, ?tky0⟩) (by assumption) ?tkr0
  case tky0 => (intro w' hSw; (try dsimp only at hSw); go_simp; try with_reducible rfl)
  try simp only [Act.put, List.setIfInBounds_toArray, List.set_cons_zero, List.set_cons_succ]
  refine wpAnyH_take (i := 1) (oi := { dst := some 9, op := Op.binOp BinOp.lss 3 (Operand.tmp 8) (Operand.const (Value.int IntKind.i64 0)) 3, type := 4, pos := "ref.go:24", after := #[{ on := 0, ground := Ground.data }], guard := none }) (v := ?tkv1) rfl (by kernel_rfl) (by kernel_rfl) (by kernel_rfl) (fun _ _ _ h => h) (Or.inl ⟨by rfl, ?tky1⟩) (by assumption) ?tkr1
  case tky1 => (intro w' hSw; (try dsimp only at hSw); go_simp; try with_reducible rfl)
  try simp only [Act.put, List.setIfInBounds_toArray, List.set_cons_zero, List.set_cons_succ]
  refine wpAnyH_take (i := 2) (oi := { dst := some 10, op := Op.move (Operand.tmp 9), type := 4, pos := "ref.go:24", after := #[{ on := 1, ground := Ground.data }], guard := none }) (v := ?tkv2) rfl (by kernel_rfl) (by kernel_rfl) (by kernel_rfl) (fun _ _ _ h => h) (Or.inl ⟨by rfl, ?tky2⟩) (by assumption) ?tkr2
  case tky2 => (intro w' hSw; (try dsimp only at hSw); go_simp; try with_reducible rfl)
  try simp only [Act.put, List.setIfInBounds_toArray, List.set_cons_zero, List.set_cons_succ]
  refine wpAnyH_take (i := 3) (oi := { dst := some 11, op := Op.move (Operand.tmp 0), type := 37, pos := "ref.go:24", after := #[{ on := 2, ground := Ground.guard }], guard := some (2, false) }) (v := ?tkv3) rfl (by kernel_rfl) (by kernel_rfl) (by kernel_rfl) (fun _ _ _ h => h) (Or.inl ⟨by rfl, ?tky3⟩) (by assumption) ?tkr3
  case tky3 => (intro w' hSw; (try dsimp only at hSw); go_simp; try with_reducible rfl)
  try simp only [Act.put, List.setIfInBounds_toArray, List.set_cons_zero, List.set_cons_succ]
  refine wpAnyH_take (i := 4) (oi := { dst := some 12, op := Op.move (Operand.tmp 4), type := 3, pos := "ref.go:24", after := #[{ on := 2, ground := Ground.guard }], guard := some (2, false) }) (v := ?tkv4) rfl (by kernel_rfl) (by kernel_rfl) (by kernel_rfl) (fun _ _ _ h => h) (Or.inl ⟨by rfl, ?tky4⟩) (by assumption) ?tkr4
  case tky4 => (intro w' hSw; (try dsimp only at hSw); go_simp; try with_reducible rfl)
  try simp only [Act.put, List.setIfInBounds_toArray, List.set_cons_zero, List.set_cons_succ]
  refine wpAnyH_take (i := 5) (oi := { dst := some 13, op := Op.slice 37 (Operand.tmp 11) none (some (Operand.tmp 12)) none, type := 37, pos := "ref.go:24", after := #[{ on := 3, ground := Ground.data }, { on := 4, ground := Ground.data }, { on := 2, ground := Ground.guard }], guard := some (2, false) }) (v := ?tkv5) rfl (by kernel_rfl) (by kernel_rfl) (by kernel_rfl) (fun _ _ _ h => h) (Or.inl ⟨by rfl, ?tky5⟩) (by assumption) ?tkr5
  case tky5 => (intro w' hSw; (try dsimp only at hSw); go_simp; try with_reducible rfl)
  try simp only [Act.put, List.setIfInBounds_toArray, List.set_cons_zero, List.set_cons_succ]
  refine wpAnyH_take (i := 9) (oi := { dst := some 17, op := Op.move (Operand.tmp 0), type := 37, pos := "ref.go:24", after := #[{ on := 2, ground := Ground.guard }], guard := some (2, false) }) (v := ?tkv9) rfl (by kernel_rfl) (by kernel_rfl) (by kernel_rfl) (fun _ _ _ h => h) (Or.inl ⟨by rfl, ?tky9⟩) (by assumption) ?tkr9
  case tky9 => (intro w' hSw; (try dsimp only at hSw); go_simp; try with_reducible rfl)
  try simp only [Act.put, List.setIfInBounds_toArray, List.set_cons_zero, List.set_cons_succ]
  refine wpAnyH_take (i := 10) (oi := { dst := some 18, op := Op.move (Operand.tmp 4), type := 3, pos := "ref.go:24", after := #[{ on := 2, ground := Ground.guard }], guard := some (2, false) }) (v := ?tkv10) rfl (by kernel_rfl) (by kernel_rfl) (by kernel_rfl) (fun _ _ _ h => h) (Or.inl ⟨by rfl, ?tky10⟩) (by assumption) ?tkr10
  case tky10 => (intro w' hSw; (try dsimp only at hSw); go_simp; try with_reducible rfl)
  try simp only [Act.put, List.setIfInBounds_toArray, List.set_cons_zero, List.set_cons_succ]
  refine wpAnyH_take (i := 11) (oi := { dst := some 19, op := Op.slice 37 (Operand.tmp 17) (some (Operand.tmp 18)) none none, type := 37, pos := "ref.go:24", after := #[{ on := 9, ground := Ground.data }, { on := 10, ground := Ground.data }, { on := 2, ground := Ground.guard }], guard := some (2, false) }) (v := ?tkv11) rfl (by kernel_rfl) (by kernel_rfl) (by kernel_rfl) (fun _ _ _ h => h) (Or.inl ⟨by rfl, ?tky11⟩) (by assumption) ?tkr11
  case tky11 => (intro w' hSw; (try dsimp only at hSw); go_simp; try with_reducible rfl)
  try simp only [Act.put, List.setIfInBounds_toArray, List.set_cons_zero, List.set_cons_succ]
  refine wpAnyH_take (i := 12) (oi := { dst := some 20, op := Op.convert 37 9 (Operand.tmp 19), type := 9, pos := "ref.go:24", after := #[{ on := 11, ground := Ground.data }, { on := 2, ground := Ground.guard }], guard := some (2, false) }) (v := ?tkv12) rfl (by kernel_rfl) (by kernel_rfl) (by kernel_rfl) (fun _ _ _ h => h) (Or.inl ⟨by rfl, ?tky12⟩) (by assumption) ?tkr12
  case tky12 => (intro w' hSw; (try dsimp only at hSw); go_simp; try with_reducible rfl)
  try simp only [Act.put, List.setIfInBounds_toArray, List.set_cons_zero, List.set_cons_succ]
  refine wpAnyH_ready (rs := [6]) (by kernel_rfl) (by simp) ?_
  refine AllReadyH.cons (o := { dst := some 14, op := Op.call { callee := Callee.value (Operand.func 45), args := #[Operand.tmp 13], argTypes := #[37] }, type := 22, pos := "ref.go:24", after := #[{ on := 5, ground := Ground.data }, { on := 2, ground := Ground.chain }, { on := 2, ground := Ground.guard }], guard := some (2, false) }) rfl (fun K hK => ?_) AllReadyH.nil
  go_simp
  refine (r1crc_any B k cap A (l.take k) _ ?_ (by omega)).mono ?_
  · rw [← bv_take]; exact (hl.head (by omega)).drew
  rintro e w' ⟨rfl, rfl⟩
  go_wp2_with fail
  refine hK.out _ _ hHeld (fun hHeld => ?_)
  clear hK K
  try simp only [Act.put, List.setIfInBounds_toArray, List.set_cons_zero, List.set_cons_succ]
  refine wpAnyH_ready (rs := [7]) (by kernel_rfl) (by simp) ?_
  refine AllReadyH.cons (o := { dst := some 15, op := Op.call { callee := Callee.value (Operand.func 39), args := #[Operand.tmp 14], argTypes := #[22] }, type := 37, pos := "ref.go:24", after := #[{ on := 6, ground := Ground.data }, { on := 6, ground := Ground.chain }, { on := 2, ground := Ground.guard }], guard := some (2, false) }) rfl (fun K hK => ?_) AllReadyH.nil
  go_simp
  refine (four_any (CrcM.sum (l.take k)) (CrcM.sum_lt _) _).mono ?_
  rintro e w1 ⟨A1, n1, c1, rfl, hn1, hown1, hb1⟩
  go_wp2_with fail
  have hb2 : Below B w w1 := hb0.trans (hb1.mono hB)
  refine hK.out _ _ ⟨hb2, hk2 _ hb2⟩ (fun hHeld => ?_)
  clear hK K
  try simp only [Act.put, List.setIfInBounds_toArray, List.set_cons_zero, List.set_cons_succ]
  have hS1 : S1R Try.prog B w A k cap l A1 n1 c1 (CrcM.four (CrcM.sum (l.take k))) w1 := ⟨⟨hb2, hk2 _ hb2⟩, run_string_row (Row.of_own hown1) c1 _ _ 5 Try.underlying37 Try.underlying5 Try.underlying9⟩
  refine wpAnyH_grow (S' := S1R Try.prog B w A k cap l A1 n1 c1 (CrcM.four (CrcM.sum (l.take k)))) (fun _ h => h.1) _ _ _ _ ?_
  clear hHeld
  refine wpAnyH_take (i := 8) (oi := { dst := some 16, op := Op.convert 37 9 (Operand.tmp 15), type := 9, pos := "ref.go:24", after := #[{ on := 7, ground := Ground.data }, { on := 2, ground := Ground.guard }], guard := some (2, false) }) (v := ?tkv8) rfl (by kernel_rfl) (by kernel_rfl) (by kernel_rfl) (fun _ _ _ h => h) (Or.inl ⟨by rfl, ?tky8⟩) (by assumption) ?tkr8
  case tky8 => (intro w' hSw; (try dsimp only at hSw); go_simp; try with_reducible rfl)
  try simp only [Act.put, List.setIfInBounds_toArray, List.set_cons_zero, List.set_cons_succ]
  refine wpAnyH_take (i := 13) (oi := { dst := some 21, op := Op.binOp BinOp.neq 9 (Operand.tmp 16) (Operand.tmp 20) 9, type := 4, pos := "ref.go:24", after := #[{ on := 8, ground := Ground.data }, { on := 12, ground := Ground.data }, { on := 2, ground := Ground.guard }], guard := some (2, false) }) (v := ?tkv13) rfl (by kernel_rfl) (by kernel_rfl) (by kernel_rfl) (fun _ _ _ h => h) (Or.inl ⟨by rfl, ?tky13⟩) (by assumption) ?tkr13
  case tky13 => (intro w' hSw; (try dsimp only at hSw); go_simp; try with_reducible rfl)
  try simp only [Act.put, List.setIfInBounds_toArray, List.set_cons_zero, List.set_cons_succ]
  refine wpAnyH_take (i := 14) (oi := { dst := some 22, op := Op.pick (Operand.tmp 10) (Operand.const (Value.bool true)) (Operand.tmp 21), type := 4, pos := "ref.go:24", after := #[{ on := 2, ground := Ground.data }, { on := 13, ground := Ground.data }], guard := none }) (v := ?tkv14) rfl (by kernel_rfl) (by kernel_rfl) (by kernel_rfl) (fun _ _ _ h => h) (Or.inl ⟨by rfl, ?tky14⟩) (by assumption) ?tkr14
  case tky14 => (intro w' hSw; (try dsimp only at hSw); go_simp; try with_reducible rfl)
  try simp only [Act.put, List.setIfInBounds_toArray, List.set_cons_zero, List.set_cons_succ]
  have hbv : (!(CrcM.four (CrcM.sum (l.take k)) == l.drop k)) = false := by rw [beq_iff_eq.2 HNE.out]; rfl
  refine wpAnyH_done (by kernel_rfl) ?_ _
  refine NoPanic.normal ?_
  rw [hbv]
  have hbw : Below w.heap.size w w1 := (Below.refl w.heap.size w).drew.trans hb1
  clear hHeld hS1
  have hrow : Row w1 B A k (bv (l.take k)) := by rw [← bv_take]; exact (hl.head (by omega)).below hb2
  go_wp2_with (at_builtin; refine wpList_app rfl _ _ 37 rfl w.heap.size 5 i0 (.int .u8 0) 1 Try.underlying37 hi hz0 hz1 hz2 rfl _ 0 [] rfl (World.ownsRow_nil _ _ _ _) B A k cap (bv (l.take k)) rfl hrow (bv_one _) (by unfold maxLen; omega) (by omega) hbw.size ?_; intro v2 w2 hown2 hg2 hat2)
  obtain ⟨A2, c2, rfl, _⟩ := own_slice hown2
  go_ret2
  have el : 0 + k = (l.take k).length := by rw [List.length_take, HL.out]; omega
  have hb2 : Below w.heap.size w w2 := hbw.grown hg2 hbw.size (by intro g h; nomatch h)
  rw [List.nil_append] at hown2
  exact ⟨A2, 0 + k, c2, rfl, el, hown2, hb2⟩
end Go.Proofs.Ytekaoodagaplmaa
