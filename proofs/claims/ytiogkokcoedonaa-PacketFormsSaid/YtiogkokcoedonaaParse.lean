/- packet.number, Parse: by contracts. -/
import Derived.Test.YtiogkokcoedonaaPacketSame
import Derived.Test.YtiogkokcoedonaaClone
import Derived.Test.YtiogkokcoedonaaNum
import Derived.Laws.ResultCell
import Derived.Laws.Rows
import Derived.Deep.RegionWith
import Derived.BigQuiet
import Derived.Deep.QuietTactic
namespace Go.Proofs.Ytiogkokcoedonaa
open Go.RowKit
set_option maxHeartbeats 400000 in
theorem pnumber_any (B cap : Nat) (A : Option Addr) (l : List UInt8) (w : World) (hl : Row w B A 4 (bv l)) :
    Calls Try.prog 33 #[.slice A 4 cap] w fun e w' => e = .returned (.int .u32 (CrcM.number l : Nat)) ∧ w = w' := by
  have HS : Hid (isNum 0 0 l) := ⟨rfl, by decide⟩
  have HN := Lib.hid hl.blen
  go_enter Try.func33, Try.ntmps33
  go_wp2
  go_loop [3, 8] (fun v i => ∃ (k x : Nat), k ≤ 4 ∧ Hid (isNum k x l) ∧ i = .int .i64 k ∧ v = .int .u32 x) (fun _ i => 4 - (intOf i).toNat)
  case atStart => exact ⟨0, 0, by omega, HS, rfl, rfl⟩
  case round =>
    obtain ⟨k, x, hk, hx, rfl, rfl⟩ := hrel
    by_cases hlt : k < 4
    · obtain ⟨b, o, rfl, _, hkl, hcell⟩ := hl.byteAt hlt
      obtain ⟨y, hy, hr⟩ := isNum_next hx.out hkl hlt
      have HY := Lib.hid hy
      clear hy
      have hb : (l[k].toNat : Int) ≤ 255 := by have := CrcM.b_lt l[k]; omega
      go_wp2
      go_round
      case rel => exact ⟨k + 1, y, by omega, hr, by go_num, HY.out⟩
      case measure => simp [intOf]; omega
    · have : k = 4 := by omega
      subst this
      go_wp2
      go_ret
      refine ⟨?_, rfl⟩
      have e := hx.out.1
      rw [List.take_of_length_le (by rw [HN.out]; omega)] at e
      rw [e]; rfl
theorem results_cell_tmp_row {P : Program} {fn : Func} {p u : Tmp} {ty : TypeId} (h : fn.results = #[.cell p ty, .tmp u]) (tmps : Array Value) (w : World) (g : Nat) (t : TypeId) (cs : Array Value) (fr : Nat × Nat) (d : TypeDesc)
    (hp : tmps.getD p undef = .pointer (some ⟨g, 0, none⟩)) (hg : w.heap[g]? = some (.cells cs t fr))
    (hu : P.underlying ty = some d) (hd : (match d with | .struct _ | .array _ _ => true | _ => false) = true) (hi : (P.info? ty).map (·.size) = some cs.size) :
    (results fn tmps).run P w = .ok (.tuple #[.agg cs, tmps.getD u undef]) w := by
  rw [results_cell_tmp h, hp]
  simp [asAddr, run_loadVar_row w g t ty cs fr d hg hu hd hi]
theorem store3 {w : World} {g : Nat} {a b c : Value} {t : TypeId} (h : w.heap[g]? = some (.cells #[a, b, c] t (0, 0))) (x y z : Value) : (((w.setCell ⟨g, 0, none⟩ x).setCell ⟨g, 1, none⟩ y).setCell ⟨g, 2, none⟩ z).heap[g]? = some (.cells #[x, y, z] t (0, 0)) :=
  heap_setCell_same _ g 2 _ t z (heap_setCell_same _ g 1 _ t y (heap_setCell_same w g 0 _ t x h))
def ParseOk (l : List UInt8) (w : World) (e : Ending) (w' : World) : Prop :=
  ∃ A n cap, e = .returned (.tuple #[.agg #[.int .u32 (CrcM.number (l.take 4) : Nat), .int .u32 (CrcM.number ((l.drop 4).take 4) : Nat), .slice A n cap], .int .i64 0]) ∧ Hid (n + 8 = l.length) ∧ w'.ownsRow w.heap.size 5 1 (.slice A n cap) n (bv (l.drop 8)) ∧ Below w.heap.size w w'
set_option maxHeartbeats 400000 in
theorem parse_short (n cap : Nat) (A : Option Addr) (w : World) (h : n ≤ 8) :
    Calls Try.prog 23 #[.slice A n cap] w (fun e w' => e = .returned (.tuple #[.agg #[.int .u32 0, .int .u32 0, .slice none 0 0], .int .i64 2]) ∧ Below w.heap.size w w') := by
  go_enter Try.func23, Try.ntmps23
  go_wp2
  refine bodyPost_ret (results_cell_tmp_row rfl _ _ w.heap.size _ _ (0, 0) _ rfl (heap_alloc_new _ _) Try.underlying39 rfl (by kernel_rfl)) rfl ?_
  exact ⟨rfl, (Below.refl _ _).alloc (Nat.le_refl _) _⟩
set_option maxHeartbeats 400000 in
theorem parse_long (n cap : Nat) (A : Option Addr) (w : World) (h : 24 < n) :
    Calls Try.prog 23 #[.slice A n cap] w (fun e w' => e = .returned (.tuple #[.agg #[.int .u32 0, .int .u32 0, .slice none 0 0], .int .i64 3]) ∧ Below w.heap.size w w') := by
  go_enter Try.func23, Try.ntmps23
  go_wp2
  refine bodyPost_ret (results_cell_tmp_row rfl _ _ w.heap.size _ _ (0, 0) _ rfl (heap_alloc_new _ _) Try.underlying39 rfl (by kernel_rfl)) rfl ?_
  exact ⟨rfl, (Below.refl _ _).alloc (Nat.le_refl _) _⟩
set_option maxHeartbeats 400000 in
theorem parse_ok (B n cap : Nat) (A : Option Addr) (l : List UInt8) (w : World) (hl : Row w B A n (bv l)) (h8 : 8 < n) (h24 : n ≤ 24) (hn : n ≤ cap) (hcap : cap ≤ 9223372036854775807) (hB : B ≤ w.heap.size) :
    Calls Try.prog 23 #[.slice A n cap] w (ParseOk l w) := by
  obtain ⟨k, rfl⟩ : ∃ k, n = k + 8 := ⟨n - 8, by omega⟩
  have HL := Lib.hid hl.blen
  have h4c : (4 : Int) ≤ cap := by omega
  have h8c : (8 : Int) ≤ cap := by omega
  have h8k : (8 : Int) ≤ (k : Int) + 8 := by omega
  have hkc : (k : Int) + 8 ≤ cap := by omega
  have hr1 : Row w B A 4 (bv (l.take 4)) := by rw [← bv_take]; exact hl.head (by omega)
  have hr2 : Row w B (A.map fun x => x.add 4) 4 (bv ((l.drop 4).take 4)) := by rw [← bv_take, ← bv_drop]; exact hl.cut (by omega)
  have hr3 : Row w B (A.map fun x => x.add 8) k (bv (l.drop 8)) := by
    have := hl.cut (k := 8) (m := k) (by omega)
    rwa [List.take_of_length_le (by rw [List.length_drop, hl.1]; omega), bv_drop] at this
  go_enter Try.func23, Try.ntmps23
  go_wp2_with fail
  have hb0 : Below w.heap.size w (w.alloc (.cells #[.int .u32 0, .int .u32 0, .slice none 0 0] 39)) := (Below.refl _ _).alloc (Nat.le_refl _) _
  go_region_with (first
    | (go_at_call 33; (with_reducible refine (pnumber_any B cap A (l.take 4) _ ?_).mono ?_); exact (hr1.below (hb0.drew.mono hB)); rintro e w' ⟨rfl, rfl⟩)
    | (go_at_call 33; refine (pnumber_any B _ _ ((l.drop 4).take 4) _ ?_).mono ?_; exact (hr2.below (hb0.drew.mono hB)); rintro e w' ⟨rfl, rfl⟩)
    | (go_at_call 30; refine (clone_any B k _ _ (l.drop 8) _ (hr3.below (hb0.drew.mono hB)) (by omega) (by simp; omega)).mono ?_; rintro e w3 ⟨A3, n3, c3, rfl, hn3, hown3, hb3⟩; have hz := (hb3.block w.heap.size (by simp)).trans (heap_alloc_new w (.cells #[.int .u32 0, .int .u32 0, .slice none 0 0] 39)); obtain ⟨y0, y1, y2⟩ := box3 hz; have z0 := frozen_of_row w3 w.heap.size 0 _ _ hz; have z1 := frozen_of_row w3 w.heap.size 1 _ _ hz; have z2 := frozen_of_row w3 w.heap.size 2 _ _ hz; have HZ := Lib.hid hz; clear hz))
  go_wp2
  have hrow := store3 HZ.out (.int .u32 (CrcM.number (l.take 4) : Nat)) (.int .u32 (CrcM.number ((l.drop 4).take 4) : Nat)) (.slice A3 n3 c3)
  refine bodyPost_ret (results_cell_tmp_row rfl _ _ w.heap.size _ _ (0, 0) _ rfl hrow Try.underlying39 rfl (by kernel_rfl)) rfl ?_
  have hs : (w.alloc (.cells #[.int .u32 0, .int .u32 0, .slice none 0 0] 39)).drew.heap.size = w.heap.size + 1 := by show (w.alloc _).heap.size = _; simp
  rw [hs] at hown3
  refine ⟨A3, n3, c3, rfl, ?_, ?_, ?_⟩
  · show n3 + 8 = l.length
    rw [hn3.out, List.length_drop, HL.out]; omega
  · exact own_base (ownsRow_setCell_below (ownsRow_setCell_below (ownsRow_setCell_below hown3 (Nat.lt_succ_self _) _) (Nat.lt_succ_self _) _) (Nat.lt_succ_self _) _) (by omega)
  · exact (((hb0.drew.trans (hb3.mono (by rw [hs]; omega))).setCell (Nat.le_refl _) _).setCell (Nat.le_refl _) _).setCell (Nat.le_refl _) _
end Go.Proofs.Ytiogkokcoedonaa
