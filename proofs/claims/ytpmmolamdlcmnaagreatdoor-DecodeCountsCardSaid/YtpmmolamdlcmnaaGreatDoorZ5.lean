/- Contracts of the functions that the law calls, part 5. -/
import Derived.Defers
import Derived.RegionCalls
import Derived.ChangeAlike
import Derived.Deep.QuietTactic
import Derived.BigQuiet
import Derived.Deep.DeepCutAuto
import Derived.Test.YtpmmolamdlcmnaaGreatDoorRows
import Derived.Deep.RegionWith
import Derived.WalkSpells
import Derived.WalkLawsBesides
import Derived.Laws.Rows
import Derived.Lib.Hide
import Derived.Laws.BitsAllLaws
import Derived.Laws.LoneSync
import Derived.Deep.WholeRow
import Derived.Deep.RegionHeld3
import Derived.Test.YtpmmolamdlcmnaaGreatDoorZ4
namespace Go.Proofs.YtpmmolamdlcmnaaGreatDoor
open Go.RowKit
open SoM
theorem disable (w : World) : (callFunc 105 #[]).run Tryz.prog w = .ok (.value (.tuple #[])) w := run_call_mark0 Tryz.func105 (by kernel_rfl) (by kernel_rfl) (by kernel_rfl) .disable (by kernel_rfl) w
theorem enable (w : World) : (callFunc 107 #[]).run Tryz.prog w = .ok (.value (.tuple #[])) w := run_call_mark0 Tryz.func107 (by kernel_rfl) (by kernel_rfl) (by kernel_rfl) .enable (by kernel_rfl) w
theorem acquire (a : Addr) (w : World) : (callFunc 108 #[.pointer (some a)]).run Tryz.prog w = .ok (.value (.tuple #[])) w := run_call_marked Tryz.func108 (by kernel_rfl) (by kernel_rfl) (by kernel_rfl) .acquire (by kernel_rfl) a w
theorem releaseMerge (a : Addr) (w : World) : (callFunc 110 #[.pointer (some a)]).run Tryz.prog w = .ok (.value (.tuple #[])) w := run_call_marked Tryz.func110 (by kernel_rfl) (by kernel_rfl) (by kernel_rfl) .releaseMerge (by kernel_rfl) a w
theorem store_deferred (a : Addr) (x : Value) (u : FrameMode) (w : World) (hc : w.cell? a = some x) (hz : w.frozen? a = false) :
    CallsD Tryz.prog 79 #[.pointer (some a), .bool true] u w fun e u' w' => u' = u ∧ (e = .returned (.tuple #[]) ∧ w' = w.drew.setCell a (.int .u32 1)) := by
  have hc' : w.drew.cell? a = some x := by go_simp
  have hz' : w.drew.frozen? a = false := by go_simp
  have hst := run_call_store (P := Tryz.prog) Tryz.func81 (by kernel_rfl) (by kernel_rfl) (by kernel_rfl) (by kernel_rfl) (k := .u32) (y := 1) hc' hz'
  go_enter_d Tryz.func79, Tryz.ntmps79
  go_wp2
  go_region_calls
  all_goals (go_end0; exact ⟨rfl, rfl⟩)
set_option maxRecDepth 100000 in
set_option maxHeartbeats 1600000 in
theorem unlock_deferred (a : Addr) (u : FrameMode) (w : World) (hc : w.cell? a = some (.int .i32 1)) (hz : w.frozen? a = false) :
    CallsD Tryz.prog 78 #[.pointer (some a)] u w fun e u' w' => u' = u ∧ (e = .returned (.tuple #[]) ∧ w' = w.setCell a (.int .i32 0)) := by
  have hd := disable
  have he := enable
  have hr := releaseMerge
  have hadd := run_call_add (P := Tryz.prog) Tryz.func111 (by kernel_rfl) (by kernel_rfl) (by kernel_rfl) .i32 (by kernel_rfl) (y := -1) (s := 0) hc hz (by simp [go_sem]; rfl)
  have hcv := run_convert_to_unsafe (P := Tryz.prog) (src := 159) (dst := 163) Tryz.underlying159 Tryz.underlying163 (by kernel_rfl) hc
  go_enter_d Tryz.func78, Tryz.ntmps78
  go_wp2
  go_end0
  go_wp2
  go_end0
  exact ⟨rfl, rfl⟩
set_option maxRecDepth 100000 in
set_option maxHeartbeats 1600000 in
theorem lock_free (a : Addr) (w : World) (hc : w.cell? a = some (.int .i32 0)) (hz : w.frozen? a = false) :
    Calls Tryz.prog 77 #[.pointer (some a)] w fun e w' => e = .returned (.tuple #[]) ∧ w' = w.setCell a (.int .i32 1) := by
  have hd := disable
  have he := enable
  have ha := acquire
  have hcas := run_call_cas_hit (P := Tryz.prog) Tryz.func106 (by kernel_rfl) (by kernel_rfl) (by kernel_rfl) .i32 (by kernel_rfl) (y := 1) hc hz
  have hc' : (w.setCell a (.int .i32 1)).cell? a = some (.int .i32 1) := World.cell?_setCell_same w a _ hc
  have hcv := run_convert_to_unsafe (P := Tryz.prog) (src := 159) (dst := 163) Tryz.underlying159 Tryz.underlying163 (by kernel_rfl) hc'
  go_enter Tryz.func77, Tryz.ntmps77
  go_wp2
  first | go_end0 | (simp only [Exit.inBlock, Exit.then]; refine bodyPost_ret (results_none rfl _ _ _) rfl ?_) | refine bodyPost_ret (results_none rfl _ _ _) rfl ?_
  go_wp2
  go_end0
  exact ⟨rfl, rfl⟩
theorem bload_no (a : Addr) (w : World) (hc : w.cell? a = some (.int .u32 0)) : Calls Tryz.prog 53 #[.pointer (some a)] w fun e w' => e = .returned (.bool false) ∧ w = w' := by
  have hl := run_call_load (P := Tryz.prog) Tryz.func76 (by kernel_rfl) (by kernel_rfl) (by kernel_rfl) .u32 (by kernel_rfl) hc
  go_enter Tryz.func53, Tryz.ntmps53
  go_wp2
  go_ret
  exact ⟨rfl, rfl⟩
theorem bload_yes (a : Addr) (w : World) (hc : w.cell? a = some (.int .u32 1)) : Calls Tryz.prog 53 #[.pointer (some a)] w fun e w' => e = .returned (.bool true) ∧ w = w' := by
  have hl := run_call_load (P := Tryz.prog) Tryz.func76 (by kernel_rfl) (by kernel_rfl) (by kernel_rfl) .u32 (by kernel_rfl) hc
  go_enter Tryz.func53, Tryz.ntmps53
  go_wp2
  go_ret
  exact ⟨rfl, rfl⟩
theorem Tab.setM {w : World} {g n : Nat} {d m : Int} {v : Value} (h : Tab w g n d m v) (m' : Int) : Tab (w.setCell ⟨g, 2, none⟩ (.int .i32 m')) g n d m' v := by
  unfold Tab
  rw [heap_setCell_same w g 2 _ _ _ h]; rfl
theorem Tab.setD {w : World} {g n : Nat} {d m : Int} {v : Value} (h : Tab w g n d m v) (d' : Int) : Tab (w.setCell ⟨g, 1, none⟩ (.int .u32 d')) g n d' m v := by
  unfold Tab
  rw [heap_setCell_same w g 1 _ _ _ h]; rfl
def DoOk (g n : Nat) (w : World) (e : Ending) (w' : World) : Prop :=
  e = .returned (.tuple #[]) ∧ ∃ A c, Hid (Tab w' g n 1 0 (.slice A n c)) ∧ Hid (w'.ownsRow w.heap.size 53 1 (.slice A n c) n (u6 (sms n n))) ∧ Hid (But w.heap.size g w w')
set_option maxRecDepth 100000 in
set_option maxHeartbeats 3200000 in
theorem slow_any (g n : Nat) (w : World) (h : Tab w g n 0 0 (.slice none 0 0)) (h1 : 1 ≤ n) (h2 : n ≤ 80) :
    Calls Tryz.prog 54 #[.pointer (some ⟨g, 1, none⟩), .func (.func 70) #[.pointer (some ⟨g, 0, none⟩)] #[]] w (DoOk g n w) := by
  have HT := Lib.hid h
  have hlt := h.lt
  have HTM := Lib.hid (h.setM 1)
  have hnot : ∀ (x : Bool) (w : World), (Op.unary .not (.bool x)).run Tryz.prog w = .ok (.bool (!x)) w := fun _ _ => rfl
  clear h
  go_enter_defers Tryz.func54, Tryz.ntmps54
  go_wp2_with (first | (go_at_call 77; refine (lock_free ⟨g, 2, none⟩ _ HT.out.cells.2.2.1 (HT.out.frozen 2)).mono ?_; rintro e w' ⟨rfl, rfl⟩) | (go_at_call 53; refine (bload_no _ _ HTM.out.cells.2.1).mono ?_; rintro e w' ⟨rfl, rfl⟩))
  refine (add_any g n 0 1 _ HTM.out h1 h2).mono ?_
  rintro e w2 ⟨rfl, A, c, hT2, hown2, hbt2⟩
  have hbt : Hid (But w.heap.size g w w2) := ((But.refl _ _ _).setSelf 2 _).trans (by simpa using hbt2.out)
  have hown : Hid (w2.ownsRow w.heap.size 53 1 (.slice A n c) n (u6 (sms n n))) := by show World.ownsRow _ _ _ _ _ _ _; simpa using hown2.out
  clear hbt2 hown2
  go_wp2
  have hT2d : Tab w2.drew g n 0 1 (.slice A n c) := hT2.out
  have HT3 := Lib.hid (hT2d.setD 1)
  refine leaves_cons (f := 79) (args := #[.pointer (some ⟨g, 1, none⟩), .bool true]) (by simp) (by simp [go_sem]) ?_
  refine (store_deferred ⟨g, 1, none⟩ (.int .u32 0) .returning _ hT2.out.cells.2.1 (hT2.out.frozen 1)).mono ?_
  rintro e u' w'' ⟨rfl, rfl, rfl⟩
  refine leaves_cons (f := 78) (args := #[.pointer (some ⟨g, 2, none⟩)]) (by simp [settle]) (by simp [go_sem]) ?_
  refine (unlock_deferred ⟨g, 2, none⟩ _ _ HT3.out.cells.2.2.1 (HT3.out.frozen 2)).mono ?_
  rintro e u' w'' ⟨rfl, rfl, rfl⟩
  simp [Leaves, settle, results, Tryz.results54]
  have hB : But w2.heap.size g w2 ((w2.drew.setCell ⟨g, 1, none⟩ (.int .u32 1)).setCell ⟨g, 2, none⟩ (.int .i32 0)) := ((But.of_below (Below.refl _ _).drew).setSelf 1 _).setSelf 2 _
  exact ⟨rfl, A, c, HT3.out.setM 0, own_but hown.out hB hlt, hbt.out.trans (hB.mono hbt.out.size)⟩
theorem do_first (g n : Nat) (w : World) (h : Tab w g n 0 0 (.slice none 0 0)) (h1 : 1 ≤ n) (h2 : n ≤ 80) :
    Calls Tryz.prog 26 #[.pointer (some ⟨g, 1, none⟩), .func (.func 70) #[.pointer (some ⟨g, 0, none⟩)] #[]] w (DoOk g n w) := by
  have HT := Lib.hid h
  have hnot : ∀ (x : Bool) (w : World), (Op.unary .not (.bool x)).run Tryz.prog w = .ok (.bool (!x)) w := fun _ _ => rfl
  clear h
  go_enter Tryz.func26, Tryz.ntmps26
  go_wp2_with (go_at_call 53; refine (bload_no _ _ HT.out.cells.2.1).mono ?_; rintro e w' ⟨rfl, rfl⟩)
  refine (slow_any g n w HT.out h1 h2).mono ?_
  rintro e w2 ⟨rfl, A, c, hT2, hown2, hbt2⟩
  go_wp2
  go_end0
  exact ⟨rfl, A, c, hT2, hown2, hbt2⟩
theorem do_done (g n : Nat) (v f : Value) (w : World) (h : Tab w g n 1 0 v) :
    Calls Tryz.prog 26 #[.pointer (some ⟨g, 1, none⟩), f] w (fun e w' => e = .returned (.tuple #[]) ∧ w = w') := by
  have HT := Lib.hid h
  have hnot : ∀ (x : Bool) (w : World), (Op.unary .not (.bool x)).run Tryz.prog w = .ok (.bool (!x)) w := fun _ _ => rfl
  clear h
  go_enter Tryz.func26, Tryz.ntmps26
  go_wp2_with (go_at_call 53; refine (bload_yes _ _ HT.out.cells.2.1).mono ?_; rintro e w' ⟨rfl, rfl⟩)
  go_end0
  exact ⟨rfl, rfl⟩
end Go.Proofs.YtpmmolamdlcmnaaGreatDoor
namespace Go.Proofs.YtpmmolamdlcmnaaGreatDoor
open Go.RowKit
open SoM
theorem sm_mono (n i j : Nat) (h : i ≤ j) : sm n i ≤ sm n j := by
  induction j with
  | zero =>
    have h0 : i = 0 := by omega
    subst h0
    exact Nat.le_refl _
  | succ j ih =>
    rcases Nat.lt_or_ge j i with h2 | h2
    · obtain rfl : i = j + 1 := by omega
      exact Nat.le_refl _
    · have := ih h2
      show sm n i ≤ sm n j + wt n (j + 1)
      omega
/-- d is the number that a falls on -/
def IsDeg (n a d : Nat) : Prop := 1 ≤ d ∧ d ≤ n ∧ sm n (d - 1) ≤ a ∧ a < sm n d
theorem IsDeg.uniq {n a d d' : Nat} (h : IsDeg n a d) (h' : IsDeg n a d') : d = d' := by
  obtain ⟨_, _, h3, h4⟩ := h
  obtain ⟨_, _, h7, h8⟩ := h'
  rcases Nat.lt_trichotomy d d' with e | e | e
  · have := sm_mono n d (d' - 1) (by omega); omega
  · exact e
  · have := sm_mono n d' (d - 1) (by omega); omega
theorem IsDeg.mono {n a a' d d' : Nat} (h : IsDeg n a d) (h' : IsDeg n a' d') (ha : a ≤ a') : d ≤ d' := by
  obtain ⟨_, _, h3, h4⟩ := h
  obtain ⟨_, _, h7, h8⟩ := h'
  rcases Nat.lt_or_ge d' d with e | e
  · have := sm_mono n d' (d - 1) (by omega); omega
  · exact e
theorem sms_getD (n k : Nat) (h : k < n) : (sms n n).getD k 0 = sm n (k + 1) := by simp [sms, h, List.getD]
def atx (n x : Nat) : Nat := x * sm n n / 4294967296
theorem atx_lt (n x : Nat) (h1 : 1 ≤ n) (h2 : n ≤ 80) (hx : x < 4294967296) : atx n x < sm n n := by
  obtain ⟨_, _, _, _, _, _, h7⟩ := wt_bound n n h1 h2 h1 (Nat.le_refl _)
  unfold atx
  rw [Nat.div_lt_iff_lt_mul (by omega), Nat.mul_comm]
  exact Nat.mul_lt_mul_of_pos_left hx h7
theorem degree_nil (x : Nat) (w : World) : Calls Tryz.prog 47 #[.pointer none, .int .u32 (x : Int)] w fun e w' => e = .returned (.int .i64 0) ∧ w = w' := by
  go_enter Tryz.func47, Tryz.ntmps47
  go_wp2_with (go_at_call 69; refine (empty_nil _).mono ?_; rintro e w' ⟨rfl, rfl⟩)
  go_ret
  exact ⟨rfl, rfl⟩
/-- a table whose sums are there -/
def Full (w : World) (g n : Nat) : Prop := ∃ A c, Tab w g n 1 0 (.slice A n c) ∧ Row w w.heap.size A n (u6 (sms n n)) ∧ (∀ b o, A = some ⟨b, o, none⟩ → b ≠ g)
theorem Full.below {w w' : World} {g n : Nat} (h : Full w g n) (hb : Below w.heap.size w w') : Full w' g n := by
  obtain ⟨A, c, h1, h2, h3⟩ := h
  exact ⟨A, c, h1.below hb h1.lt, (h2.below hb).more hb.size, h3⟩
theorem Full.lt {w : World} {g n : Nat} (h : Full w g n) : g < w.heap.size := by obtain ⟨A, c, h1, _⟩ := h; exact h1.lt
def DegOk (g n x : Nat) (w : World) (e : Ending) (w' : World) : Prop :=
  ∃ d : Nat, e = .returned (.int .i64 (d : Int)) ∧ Hid (IsDeg n (atx n x) d) ∧ Hid (Full w' g n) ∧ Hid (But w.heap.size g w w')
set_option maxRecDepth 100000 in
set_option maxHeartbeats 3200000 in
theorem degree_again (g n x : Nat) (w : World) (h : Full w g n) (h1 : 1 ≤ n) (h2 : n ≤ 80) (hx : x < 4294967296) :
    Calls Tryz.prog 47 #[.pointer (some ⟨g, 0, none⟩), .int .u32 (x : Int)] w (DegOk g n x w) := by
  have HF := Lib.hid h
  obtain ⟨A, c, hT, hR, _⟩ := h
  have HT := Lib.hid hT
  have HE := Lib.hid (fun w hT => empty_no g n 1 0 (.slice A n c) w hT h1)
  have HD := Lib.hid (fun (f : Value) w hT => do_done g n (.slice A n c) f w hT)
  obtain ⟨c0, _, _, _, c4⟩ := hT.cells
  obtain ⟨b, o, rfl, _, hcl⟩ := hR.cellAt (k := n - 1) (by omega) (u6_get _ (n - 1) (by rw [sms_length]; omega))
  rw [sms_getD n (n - 1) (by omega), show n - 1 + 1 = n by omega] at hcl
  have HR := Lib.hid hR
  obtain ⟨_, _, _, hs4, _, _, _⟩ := wt_bound n n h1 h2 h1 (Nat.le_refl _)
  have HATL := Lib.hid (atx_lt n x h1 h2 hx)
  obtain ⟨S, hS⟩ : ∃ S, sm n n = S := ⟨_, rfl⟩
  obtain ⟨T, hTT⟩ : ∃ T, atx n x = T := ⟨_, rfl⟩
  rw [hS] at hcl hs4
  have hmul : ∃ Q : Nat, (x : Int) * (S : Int) = (Q : Int) ∧ Q ≤ 18446744073709551615 ∧ (Q : Int) / 4294967296 = (T : Int) := by
    refine ⟨x * S, by push_cast; rfl, ?_, ?_⟩
    · have := Nat.mul_le_mul (show x ≤ 4294967296 by omega) hs4
      omega
    · rw [← hTT, atx, hS]; rfl
  obtain ⟨Q, hQ, hQ2, hQ3⟩ := hmul
  have HTT := Lib.hid hTT
  have HS := Lib.hid hS
  rw [hTT] at HATL
  have hni : (0 : Int) ≤ (n : Int) - 1 := by omega
  have hni2 : (n : Int) - 1 < (n : Int) := by omega
  have hnn : ((n : Int) - 1).toNat = n - 1 := by omega
  have hwn : IntKind.i64.wrap ((n : Int) - 1) = (n : Int) - 1 := IntWalk.i64_in _ (by omega)
  have hQi : (Q : Int) ≤ 18446744073709551615 := by omega
  have hwq : IntKind.u64.wrap (Q : Int) = (Q : Int) := by simp only [IntKind.wrap, IntKind.bits, IntKind.signed]; simp; omega
  have hwx : IntKind.u64.wrap (x : Int) = (x : Int) := by simp only [IntKind.wrap, IntKind.bits, IntKind.signed]; simp; omega
  have HQI := Lib.hid hQi
  clear hT hR hs4 hS hTT hQ2 hQi hx
  go_enter Tryz.func47, Tryz.ntmps47
  go_wp2_with (first | (go_at_call 69; refine (HE.out _ HT.out).mono ?_; rintro e w' ⟨rfl, rfl⟩) | (go_at_call 26; refine (HD.out _ _ HT.out).mono ?_; rintro e w' ⟨rfl, rfl⟩))
  go_quiet (fail)
  go_wp2_with fail
  have hFd : Hid (Full (w.drewN nq) g n) := HF.out.below ⟨rfl, rfl, rfl, Nat.le_refl _, fun _ _ => rfl⟩
  have hBd : Hid (But w.heap.size g w (w.drewN nq)) := But.of_below ⟨rfl, rfl, rfl, Nat.le_refl _, fun _ _ => rfl⟩
  have hc4d : (w.drewN nq).cell? ⟨g, 4, none⟩ = some (.slice (some ⟨b, o, none⟩) n c) := c4
  have hRd : Hid (Row (w.drewN nq) w.heap.size (some ⟨b, o, none⟩) n (u6 (sms n n))) := HR.out
  clear c0 c4 hcl hwx hwq hQ hQ3 hwn hnn hni hni2
  generalize w.drewN nq = w1 at *
  go_loop [6] (fun z => ∃ k : Nat, k < n ∧ z = .int .i64 (k + 1 : Nat) ∧ sm n k ≤ T) (fun z => n + 1 - (intOf z).toNat)
  case atStart => exact ⟨0, by omega, rfl, by simp [sm]⟩
  case round =>
    obtain ⟨k, hk, rfl, hle⟩ := hrel
    rw [show ((k + 1 : Nat) : Int) = (k : Int) + 1 by push_cast; rfl]
    obtain ⟨b', o', e', _, hcl⟩ := hRd.out.cellAt (k := k) hk (u6_get _ k (by rw [sms_length]; exact hk))
    injection e' with e'
    injection e' with e1 e2
    subst e1 e2
    rw [sms_getD n k hk] at hcl
    have hki : (k : Int) < (n : Int) := by omega
    have HLE := Lib.hid hle
    obtain ⟨Y, hY⟩ : ∃ Y, sm n (k + 1) = Y := ⟨_, rfl⟩
    rw [hY] at hcl
    have HY := Lib.hid hY
    clear hle hY
    by_cases hc : Y ≤ T
    · have hci : (Y : Int) ≤ (T : Int) := by omega
      have hkn : k + 1 < n := by
        rcases Nat.lt_or_ge (k + 1) n with h | h
        · exact h
        · have : k + 1 = n := by omega
          have h2 := HATL.out
          have h3 := HY.out
          rw [this] at h3
          omega
      go_wp2_with fail
      go_round
      case rel => exact ⟨k + 1, by omega, by go_num, by rw [HY.out]; exact hc⟩
      case measure => simp [intOf]; omega
    · have hci : ¬ (Y : Int) ≤ (T : Int) := by omega
      go_wp2_with fail
      go_ret
      refine ⟨k + 1, rfl, ?_, hFd, hBd⟩
      show IsDeg _ _ _
      rw [HTT.out]
      exact ⟨by omega, by omega, HLE.out, by rw [HY.out]; omega⟩
set_option maxRecDepth 100000 in
set_option maxHeartbeats 3200000 in
theorem degree_first (g n x : Nat) (w : World) (h : Tab w g n 0 0 (.slice none 0 0)) (h1 : 1 ≤ n) (h2 : n ≤ 80) (hx : x < 4294967296) :
    Calls Tryz.prog 47 #[.pointer (some ⟨g, 0, none⟩), .int .u32 (x : Int)] w (DegOk g n x w) := by
  have HT0 := Lib.hid h
  have hglt := h.lt
  have HX := Lib.hid hx
  clear h hx
  go_enter Tryz.func47, Tryz.ntmps47
  go_wp2_with (go_at_call 69; refine (empty_no g n 0 0 _ _ HT0.out h1).mono ?_; rintro e w' ⟨rfl, rfl⟩)
  refine (do_first g n w HT0.out h1 h2).mono ?_
  rintro e w2 ⟨rfl, A, c, hT2, hown2, hbt⟩
  have hx := HX.out
  have hAg : ∀ b o, A = some ⟨b, o, none⟩ → b ≠ g := by
    intro b o eA
    obtain ⟨g', c', hv, hg', _⟩ := hown2.out.form (by omega)
    injection hv with e1 e2 e3
    rw [eA] at e1
    injection e1 with e1
    injection e1 with e1
    omega
  have hT := hT2.out
  have hR := Row.of_own hown2.out
  have HF : Hid (Full w2 g n) := ⟨A, c, hT, hR, hAg⟩
  clear hAg hT2 hown2 HT0
  obtain ⟨c0, _, _, _, c4⟩ := hT.cells
  obtain ⟨b, o, rfl, _, hcl⟩ := hR.cellAt (k := n - 1) (by omega) (u6_get _ (n - 1) (by rw [sms_length]; omega))
  rw [sms_getD n (n - 1) (by omega), show n - 1 + 1 = n by omega] at hcl
  have HR := Lib.hid hR
  obtain ⟨_, _, _, hs4, _, _, _⟩ := wt_bound n n h1 h2 h1 (Nat.le_refl _)
  have HATL := Lib.hid (atx_lt n x h1 h2 hx)
  obtain ⟨S, hS⟩ : ∃ S, sm n n = S := ⟨_, rfl⟩
  obtain ⟨T, hTT⟩ : ∃ T, atx n x = T := ⟨_, rfl⟩
  rw [hS] at hcl hs4
  have hmul : ∃ Q : Nat, (x : Int) * (S : Int) = (Q : Int) ∧ Q ≤ 18446744073709551615 ∧ (Q : Int) / 4294967296 = (T : Int) := by
    refine ⟨x * S, by push_cast; rfl, ?_, ?_⟩
    · have := Nat.mul_le_mul (show x ≤ 4294967296 by omega) hs4
      omega
    · rw [← hTT, atx, hS]; rfl
  obtain ⟨Q, hQ, hQ2, hQ3⟩ := hmul
  have HTT := Lib.hid hTT
  have HS := Lib.hid hS
  rw [hTT] at HATL
  have hni : (0 : Int) ≤ (n : Int) - 1 := by omega
  have hni2 : (n : Int) - 1 < (n : Int) := by omega
  have hnn : ((n : Int) - 1).toNat = n - 1 := by omega
  have hwn : IntKind.i64.wrap ((n : Int) - 1) = (n : Int) - 1 := IntWalk.i64_in _ (by omega)
  have hQi : (Q : Int) ≤ 18446744073709551615 := by omega
  have hwq : IntKind.u64.wrap (Q : Int) = (Q : Int) := by simp only [IntKind.wrap, IntKind.bits, IntKind.signed]; simp; omega
  have hwx : IntKind.u64.wrap (x : Int) = (x : Int) := by simp only [IntKind.wrap, IntKind.bits, IntKind.signed]; simp; omega
  have HQI := Lib.hid hQi
  clear hT hR hs4 hS hTT hQ2 hQi hx
  go_wp2_with fail
  go_quiet (fail)
  go_wp2_with fail
  have hFd : Hid (Full (w2.drewN nq) g n) := HF.out.below ⟨rfl, rfl, rfl, Nat.le_refl _, fun _ _ => rfl⟩
  have hBd : Hid (But w.heap.size g w (w2.drewN nq)) := hbt.out.trans <| But.of_below ⟨rfl, rfl, rfl, Nat.le_refl _, fun _ _ => rfl⟩
  have hc4d : (w2.drewN nq).cell? ⟨g, 4, none⟩ = some (.slice (some ⟨b, o, none⟩) n c) := c4
  have hRd : Hid (Row (w2.drewN nq) w2.heap.size (some ⟨b, o, none⟩) n (u6 (sms n n))) := HR.out
  clear c0 c4 hcl hwx hwq hQ hQ3 hwn hnn hni hni2
  generalize w2.drewN nq = w1 at *
  go_loop [6] (fun z => ∃ k : Nat, k < n ∧ z = .int .i64 (k + 1 : Nat) ∧ sm n k ≤ T) (fun z => n + 1 - (intOf z).toNat)
  case atStart => exact ⟨0, by omega, rfl, by simp [sm]⟩
  case round =>
    obtain ⟨k, hk, rfl, hle⟩ := hrel
    rw [show ((k + 1 : Nat) : Int) = (k : Int) + 1 by push_cast; rfl]
    obtain ⟨b', o', e', _, hcl⟩ := hRd.out.cellAt (k := k) hk (u6_get _ k (by rw [sms_length]; exact hk))
    injection e' with e'
    injection e' with e1 e2
    subst e1 e2
    rw [sms_getD n k hk] at hcl
    have hki : (k : Int) < (n : Int) := by omega
    have HLE := Lib.hid hle
    obtain ⟨Y, hY⟩ : ∃ Y, sm n (k + 1) = Y := ⟨_, rfl⟩
    rw [hY] at hcl
    have HY := Lib.hid hY
    clear hle hY
    by_cases hc : Y ≤ T
    · have hci : (Y : Int) ≤ (T : Int) := by omega
      have hkn : k + 1 < n := by
        rcases Nat.lt_or_ge (k + 1) n with h | h
        · exact h
        · have : k + 1 = n := by omega
          have h2 := HATL.out
          have h3 := HY.out
          rw [this] at h3
          omega
      go_wp2_with fail
      go_round
      case rel => exact ⟨k + 1, by omega, by go_num, by rw [HY.out]; exact hc⟩
      case measure => simp [intOf]; omega
    · have hci : ¬ (Y : Int) ≤ (T : Int) := by omega
      go_wp2_with fail
      go_ret
      refine ⟨k + 1, rfl, ?_, hFd, hBd⟩
      show IsDeg _ _ _
      rw [HTT.out]
      exact ⟨by omega, by omega, HLE.out, by rw [HY.out]; omega⟩
theorem tab_full_but {w w' : World} {g g' n : Nat} (h : Full w g n) (hb : But w.heap.size g' w w') (hg : g ≠ g') (hA : ∀ A c, Tab w g n 1 0 (.slice A n c) → ∀ b o, A = some ⟨b, o, none⟩ → b ≠ g') : Full w' g n := by
  obtain ⟨A, c, h1, h2, h3⟩ := h
  exact ⟨A, c, (hb.block g h1.lt hg).trans h1, (h2.but hb (fun b o e _ => hA A c h1 b o e)).more hb.size, h3⟩
end Go.Proofs.YtpmmolamdlcmnaaGreatDoor
namespace Go.Proofs.YtpmmolamdlcmnaaGreatDoor.Sp
open Go.RowKit
open VecM RdM SoM Vc
def degP (n a d : Nat) : Bool := decide (1 ≤ d) && decide (d ≤ n) && decide (sm n (d - 1) ≤ a) && decide (a < sm n d)
theorem degP_iff (n a d : Nat) : degP n a d = true ↔ IsDeg n a d := by
  unfold degP IsDeg; simp [and_assoc]
/-- the degree -/
def degF (n a : Nat) : Nat := ((List.range 81).find? (degP n a)).getD 0
theorem degF_eq {n a d : Nat} (h : IsDeg n a d) (hn : n ≤ 80) : degF n a = d := by
  have hd : d ∈ List.range 81 := by have := h.2.1; simp; omega
  unfold degF
  cases hf : (List.range 81).find? (degP n a) with
  | none =>
    rw [List.find?_eq_none] at hf
    exact absurd ((degP_iff n a d).2 h) (hf d hd)
  | some d' =>
    have h2 := (degP_iff n a d').1 (List.find?_some hf)
    exact (h.uniq h2).symm
theorem deg_exists (n a : Nat) (ha : a < sm n n) : ∃ d, IsDeg n a d := by
  have key : ∀ m, m ≤ n → a < sm n m → ∃ d, 1 ≤ d ∧ d ≤ m ∧ sm n (d - 1) ≤ a ∧ a < sm n d := by
    intro m
    induction m with
    | zero => intro _ h; exact absurd h (by simp [sm])
    | succ m ih =>
      intro hm h
      by_cases h2 : a < sm n m
      · obtain ⟨d, h3, h4, h5⟩ := ih (by omega) h2
        exact ⟨d, h3, by omega, h5⟩
      · exact ⟨m + 1, by omega, by omega, by simpa using h2, h⟩
  obtain ⟨d, h1, h2, h3, h4⟩ := key n (Nat.le_refl n) ha
  exact ⟨d, h1, h2, h3, h4⟩
/-- numbers that are all different, each within: so many bits are set -/
theorem count_fold (n : Nat) (hn : n ≤ 256) : ∀ (l : List Int) (X : Nat), l.Nodup → (∀ z ∈ l, 0 ≤ z ∧ z < (n : Int)) → (∀ z ∈ l, X.testBit z.toNat = false) → (L (l.foldl (setOne n) X) 256).length = (L X 256).length + l.length
  | [], X, _, _, _ => by simp
  | z :: t, X, hd, hr, hb => by
    have hz := hr z (by simp)
    have hzb := hb z (by simp)
    rw [List.nodup_cons] at hd
    have e : setOne n X z = X ||| 2 ^ z.toNat := by unfold setOne; rw [if_pos hz]
    rw [List.foldl_cons, e, count_fold n hn t _ hd.2 (fun y hy => hr y (by simp [hy])) (fun y hy => ?_), L_set X z.toNat hzb 256, if_pos (by omega), List.length_cons]
    · omega
    · rw [set_bit, hb y (by simp [hy])]
      have hy2 := hr y (by simp [hy])
      have : ¬ z.toNat = y.toNat := by
        intro e2
        have : z = y := by omega
        subst this
        exact hd.1 hy
      simp [this]
theorem count_ofL {n : Nat} (hn : n ≤ 256) {l : List Int} (hd : l.Nodup) (hr : ∀ z ∈ l, 0 ≤ z ∧ z < (n : Int)) : (Ls (ofL n l)).length = l.length := by
  have := count_fold n hn l 0 hd hr (fun z _ => by simp)
  rw [L_zero, List.length_nil, Nat.zero_add] at this
  exact this
/-- the row's numbers where chance tells them -/
def chance (s n id : Nat) : List Int := some_ n (sh (seed (s : Int) (id : Int))) (degF n (atx n (mx (sh (seed (s : Int) (id : Int)))).toNat))
/-- the pieces of symbol id -/
def spX (s K P id : Nat) : Nat := if id < K then 2 ^ id else ofL (K + P) (chance s (K + P) id)
theorem spX_lt {s K P id : Nat} : spX s K P id < 2 ^ (K + P) := by
  unfold spX
  split
  · exact Nat.pow_lt_pow_right (by decide) (by omega)
  · exact ofL_lt _
theorem pow_bit (i j : Nat) : (2 ^ i).testBit j = decide (i = j) := Nat.testBit_two_pow
theorem ofL_one (n i : Nat) (h : i < n) : ofL n [(i : Int)] = 2 ^ i := by
  show setOne n 0 (i : Int) = _
  unfold setOne
  rw [if_pos (by omega)]; simp
theorem Ls_pow (i : Nat) (h : i < 256) : Ls (2 ^ i) = [i] := by
  have h1 : (2 ^ i).testBit i = true := by rw [pow_bit]; simp
  have h2 : ∀ j, j < i → (2 ^ i).testBit j = false := fun j hj => by rw [pow_bit]; simp; omega
  have h3 : clr (2 ^ i) i = 0 := by
    apply Nat.eq_of_testBit_eq; intro j
    rw [clr_bit, pow_bit, Nat.zero_testBit]
    by_cases e : i = j
    · subst e; simp
    · simp [e]
  unfold Ls
  rw [L_low _ i 256 h h1 h2, h3, L_zero]
theorem chance_facts {s n id d : Nat} (hn : 1 ≤ n) (hn2 : n ≤ 80) (hd : IsDeg n (atx n (mx (sh (seed (s : Int) (id : Int)))).toNat) d) : (chance s n id).length = d ∧ (chance s n id).Nodup ∧ ∀ z ∈ chance s n id, 0 ≤ z ∧ z < (n : Int) := by
  have e := degF_eq hd hn2
  unfold chance
  rw [e]
  have h1 := some_sub n (by omega) (sh (seed (s : Int) (id : Int))) d hd.2.1
  exact ⟨some_length n _ d hd.2.1, h1.1, h1.2⟩
/-- how many pieces a row has: one at least -/
theorem spX_count {s K P id : Nat} (hK : 1 ≤ K) (hn2 : K + P ≤ 80) : 1 ≤ (Ls (spX s K P id)).length ∧ (Ls (spX s K P id)).length ≤ K + P ∧ (id < K → Ls (spX s K P id) = [id]) := by
  by_cases h : id < K
  · have e : spX s K P id = 2 ^ id := by unfold spX; rw [if_pos h]
    rw [e, Ls_pow id (by omega)]
    exact ⟨by simp, by simp; omega, fun _ => rfl⟩
  · have hm := mx_bounds (sh (seed (s : Int) (id : Int)))
    obtain ⟨d, hd⟩ := deg_exists (K + P) _ (atx_lt (K + P) (mx (sh (seed (s : Int) (id : Int)))).toNat (by omega) hn2 (by omega))
    obtain ⟨h1, h2, h3⟩ := chance_facts (s := s) (id := id) (by omega) hn2 hd
    have e : spX s K P id = ofL (K + P) (chance s (K + P) id) := by unfold spX; rw [if_neg h]
    rw [e, count_ofL (by omega) h2 h3, h1]
    exact ⟨hd.1, hd.2.1, fun h' => absurd h' h⟩
end Go.Proofs.YtpmmolamdlcmnaaGreatDoor.Sp
namespace Go.Proofs.YtpmmolamdlcmnaaGreatDoor.Sp
open Go.RowKit
theorem within_any (x a b : Int) (w : World) : Calls Tryz.prog 57 #[.int .i64 x, .int .i64 a, .int .i64 b] w fun e w' => e = .returned (.bool (decide (a ≤ x) && decide (x ≤ b))) ∧ w = w' := by
  go_enter Tryz.func57, Tryz.ntmps57
  go_wp2
  all_goals (go_ret; exact ⟨by simp; intros; omega, rfl⟩)
def mayB (K P Z : Int) : Bool := (decide (1 ≤ K) && decide (K ≤ 64)) && (decide (0 ≤ P) && decide (P ≤ 16)) && (decide (1 ≤ Z) && decide (Z ≤ 16))
/-- parameters as a value -/
def parV (s : Nat) (K P Z : Int) : Value := .agg #[.int .u32 (s : Int), .int .i64 K, .int .i64 P, .int .i64 Z]
set_option maxRecDepth 100000 in
set_option maxHeartbeats 400000 in
theorem may_any (s : Nat) (K P Z : Int) (w : World) : Calls Tryz.prog 34 #[parV s K P Z] w fun e w' => e = .returned (.bool (mayB K P Z)) ∧ Hid (Below w.heap.size w w') := by
  unfold parV
  go_enter Tryz.func34, Tryz.ntmps34
  go_wp2_with (go_at_call 57; refine (within_any _ _ _ _).mono ?_; rintro e w' ⟨rfl, rfl⟩)
  all_goals (go_ret; exact ⟨by simp [mayB, *], (Below.refl _ _).alloc (Nat.le_refl _) _⟩)
theorem mayB_iff (K P Z : Int) : mayB K P Z = true ↔ (1 ≤ K ∧ K ≤ 64) ∧ (0 ≤ P ∧ P ≤ 16) ∧ (1 ≤ Z ∧ Z ≤ 16) := by
  unfold mayB; simp [and_assoc]
/-- a box of parameters -/
theorem box4 {w : World} {g : Nat} {x y z u : Value} {t : TypeId} (h : w.heap[g]? = some (.cells #[x, y, z, u] t (0, 0))) : w.cell? ⟨g, 0, none⟩ = some x ∧ w.cell? ⟨g, 1, none⟩ = some y ∧ w.cell? ⟨g, 2, none⟩ = some z ∧ w.cell? ⟨g, 3, none⟩ = some u := by
  refine ⟨?_, ?_, ?_, ?_⟩ <;> rw [cell_of_row w g _ _ t (0, 0) h] <;> rfl
set_option maxRecDepth 100000 in
set_option maxHeartbeats 800000 in
theorem pieces_any (s : Nat) (K P Z : Int) (w : World) (hk : -9223372036854775808 ≤ K ∧ K ≤ 9223372036854775807) (hp : -9223372036854775808 ≤ P ∧ P ≤ 9223372036854775807) : Calls Tryz.prog 33 #[parV s K P Z] w fun e w' => e = .returned (.int .i64 (if mayB K P Z then K + P else 0)) ∧ Hid (Below w.heap.size w w') := by
  have hx := heap_alloc_new w (.cells #[.int .u32 (s : Int), .int .i64 K, .int .i64 P, .int .i64 Z] 35)
  have hb0 : Below w.heap.size w (w.alloc (.cells #[.int .u32 (s : Int), .int .i64 K, .int .i64 P, .int .i64 Z] 35)) := (Below.refl _ _).alloc (Nat.le_refl _) _
  have hz : (w.alloc (.cells #[.int .u32 (s : Int), .int .i64 K, .int .i64 P, .int .i64 Z] 35)).heap.size = w.heap.size + 1 := by simp
  have HM := Lib.hid (fun W => may_any s K P Z W)
  have HI := Lib.hid (mayB_iff K P Z)
  have HX := Lib.hid hx
  have HB0 := Lib.hid hb0
  have HZ := Lib.hid hz
  clear hx hb0 hz
  unfold parV at HM ⊢
  cases hm : mayB K P Z with
  | true =>
    obtain ⟨⟨k1, k2⟩, ⟨p1, p2⟩, _⟩ := HI.out.1 hm
    rw [hm] at HM
    clear hm HI hk hp
    go_enter Tryz.func33, Tryz.ntmps33
    go_wp2_with fail
    refine (HM.out _).mono ?_
    rintro e w1 ⟨rfl, hb1⟩
    obtain ⟨c0, c1, c2, c3⟩ := box4 ((hb1.out.block w.heap.size (by have := HZ.out; omega)).trans HX.out)
    have HE := Lib.hid (HB0.out.trans (hb1.out.mono HB0.out.size))
    clear hb1
    go_wp2_with fail
    go_ret
    exact ⟨rfl, HE⟩
  | false =>
    rw [hm] at HM
    clear hm HI hk hp
    go_enter Tryz.func33, Tryz.ntmps33
    go_wp2_with fail
    refine (HM.out _).mono ?_
    rintro e w1 ⟨rfl, hb1⟩
    have HE := Lib.hid (HB0.out.trans (hb1.out.mono HB0.out.size))
    go_wp2_with fail
    go_ret
    exact ⟨rfl, HE⟩
end Go.Proofs.YtpmmolamdlcmnaaGreatDoor.Sp
namespace Go.Proofs.YtpmmolamdlcmnaaGreatDoor.Sp
open Go.RowKit
open VecM RdM SoM Vc
set_option maxRecDepth 100000 in
set_option maxHeartbeats 800000 in
theorem row_no (s id : Nat) (K P Z : Int) (w : World) (hm : mayB K P Z = false) : Calls Tryz.prog 20 #[parV s K P Z, .int .u32 (id : Int)] w fun e w' => e = .returned (.pointer none) ∧ Hid (Below w.heap.size w w') := by
  have hb0 : Below w.heap.size w (w.alloc (.cells #[.int .u32 (s : Int), .int .i64 K, .int .i64 P, .int .i64 Z] 35)) := (Below.refl _ _).alloc (Nat.le_refl _) _
  have HM := Lib.hid (fun W => may_any s K P Z W)
  rw [hm] at HM
  unfold parV at HM ⊢
  clear hm
  go_enter Tryz.func20, Tryz.ntmps20
  go_wp2_with fail
  refine (HM.out _).mono ?_
  rintro e w1 ⟨rfl, hb1⟩
  have HE := Lib.hid (hb0.trans (hb1.out.mono hb0.size))
  go_wp2_with fail
  go_ret
  exact ⟨rfl, HE⟩
set_option maxRecDepth 100000 in
set_option maxHeartbeats 1600000 in
theorem row_any (s id K P Z : Nat) (w : World) (hs : s < 4294967296) (hid : id < 4294967296) (hK : 1 ≤ K ∧ K ≤ 64) (hP : P ≤ 16) (hZ : 1 ≤ Z ∧ Z ≤ 16) : Calls Tryz.prog 20 #[parV s K P Z, .int .u32 (id : Int)] w (OfOk (K + P) (spX s K P id) w) := by
  have hx := heap_alloc_new w (.cells #[.int .u32 (s : Int), .int .i64 (K : Int), .int .i64 (P : Int), .int .i64 (Z : Int)] 35)
  have hb0 : Below w.heap.size w (w.alloc (.cells #[.int .u32 (s : Int), .int .i64 (K : Int), .int .i64 (P : Int), .int .i64 (Z : Int)] 35)) := (Below.refl _ _).alloc (Nat.le_refl _) _
  have hz : (w.alloc (.cells #[.int .u32 (s : Int), .int .i64 (K : Int), .int .i64 (P : Int), .int .i64 (Z : Int)] 35)).heap.size = w.heap.size + 1 := by simp
  have hm : mayB (K : Int) (P : Int) (Z : Int) = true := (mayB_iff _ _ _).2 ⟨by omega, by omega, by omega⟩
  have HM := Lib.hid (fun W => may_any s K P Z W)
  have HPC := Lib.hid (fun W => pieces_any s K P Z W (by omega) (by omega))
  rw [hm] at HM HPC
  have hn : (K : Int) + (P : Int) = ((K + P : Nat) : Int) := by omega
  rw [if_pos rfl, hn] at HPC
  have HX := Lib.hid hx
  have HB0 := Lib.hid hb0
  have HZ' := Lib.hid hz
  obtain ⟨n, hnn⟩ : ∃ n, K + P = n := ⟨_, rfl⟩
  rw [hnn] at HPC ⊢
  have hn80 : n ≤ 80 := by omega
  have hn1 : 1 ≤ n := by omega
  have HNN := Lib.hid hnn
  have hK1 := hK.1
  have hK2 := hK.2
  have HS := Lib.hid hs
  clear hx hb0 hz hm hn hnn hK hP hZ hs
  unfold parV at HM HPC ⊢
  by_cases hlt : id < K
  · have hlt' : (id : Int) < (K : Int) := by omega
    have HXX : Hid (spX s K P id = ofL n [(id : Int)]) := by
      show _ = _
      unfold spX; rw [if_pos hlt, ofL_one n id (by have := HNN.out; omega)]
    rw [HXX.out]
    clear hlt hid
    go_enter Tryz.func20, Tryz.ntmps20
    go_wp2_with fail
    refine (HM.out _).mono ?_
    rintro e w1 ⟨rfl, hb1⟩
    have hs1 : w.heap.size < w1.heap.size := by have := hb1.out.size; have := HZ'.out; omega
    have HX1 := Lib.hid ((hb1.out.block w.heap.size (by have := HZ'.out; omega)).trans HX.out)
    have HB1 := Lib.hid (HB0.out.trans (hb1.out.mono HB0.out.size))
    obtain ⟨c0, c1, c2, c3⟩ := box4 HX1.out
    clear hb1
    go_wp2_with fail
    refine (HPC.out _).mono ?_
    rintro e w2 ⟨rfl, hb2⟩
    have hs2 : w.heap.size < w2.heap.size := by have := hb2.out.size; omega
    have HX2 := Lib.hid ((hb2.out.block w.heap.size hs1).trans HX1.out)
    have HB2 := Lib.hid (HB1.out.trans (hb2.out.mono HB1.out.size))
    clear c0 c1 c2 c3 hb2
    obtain ⟨c0, c1, c2, c3⟩ := box4 HX2.out
    have hr : Row (w2.alloc (.cells #[.int .i64 (id : Int)] 3)) (w2.heap.size + 1) (some ⟨w2.heap.size, 0, none⟩) 1 (nv [(id : Int)]) := row_new w2 #[.int .i64 (id : Int)] 3 (0, 0)
    have HO := Lib.hid (of_any n (some ⟨w2.heap.size, 0, none⟩) 1 1 _ [(id : Int)] _ hr (by simp) (by omega) (by omega))
    have HB3 : Hid (Below w.heap.size w (w2.alloc (.cells #[.int .i64 (id : Int)] 3))) := HB2.out.alloc HB2.out.size _
    clear hr
    go_wp2_with fail
    refine HO.out.mono ?_
    rintro e w3 ⟨g, h, rfl, hg, hh, hv, hb3⟩
    have hs3 : w.heap.size ≤ (w2.alloc (.cells #[.int .i64 (id : Int)] 3)).heap.size := HB3.out.size
    have HE := Lib.hid (HB3.out.trans (hb3.out.mono HB3.out.size))
    have HG : Hid (w.heap.size ≤ g ∧ w.heap.size ≤ h) := ⟨by omega, by omega⟩
    clear hb3 hg hh hs3 c0 c1 c2 c3
    go_wp2_with fail
    go_ret
    exact ⟨g, h, rfl, HG.out.1, HG.out.2, hv, HE⟩
  · have hlt' : ¬ (id : Int) < (K : Int) := by omega
    have HXX : Hid (spX s K P id = ofL n (chance s n id)) := by
      show _ = _
      have := HNN.out
      unfold spX; rw [if_neg hlt, this]
    rw [HXX.out]
    obtain ⟨Q, hQ⟩ : ∃ Q, chance s n id = Q := ⟨_, rfl⟩
    rw [hQ]
    have HQ := Lib.hid hQ
    clear hlt hQ HXX
    go_enter Tryz.func20, Tryz.ntmps20
    go_wp2_with fail
    refine (HM.out _).mono ?_
    rintro e w1 ⟨rfl, hb1⟩
    have hs1 : w.heap.size < w1.heap.size := by have := hb1.out.size; have := HZ'.out; omega
    have HX1 := Lib.hid ((hb1.out.block w.heap.size (by have := HZ'.out; omega)).trans HX.out)
    have HB1 := Lib.hid (HB0.out.trans (hb1.out.mono HB0.out.size))
    obtain ⟨c0, c1, c2, c3⟩ := box4 HX1.out
    clear hb1
    go_wp2_with fail
    refine (HPC.out _).mono ?_
    rintro e w2 ⟨rfl, hb2⟩
    have hs2 : w.heap.size < w2.heap.size := by have := hb2.out.size; omega
    have HX2 := Lib.hid ((hb2.out.block w.heap.size hs1).trans HX1.out)
    have HB2 := Lib.hid (HB1.out.trans (hb2.out.mono HB1.out.size))
    clear c0 c1 c2 c3 hb2
    obtain ⟨c0, c1, c2, c3⟩ := box4 HX2.out
    have HNW := Lib.hid (Go.Proofs.YtpmmolamdlcmnaaGreatDoor.new_any (s : Int) (id : Int) (by omega) (by have := HS.out; omega) (by omega) (by omega) w2)
    go_wp2_with fail
    refine HNW.out.mono ?_
    rintro e w3 ⟨rfl, hsrc3, hb3, hz3⟩
    have HSRC := Lib.hid hsrc3
    have HB3 := Lib.hid (HB2.out.trans (hb3.mono HB2.out.size))
    have hs3 : w2.heap.size < w3.heap.size := by omega
    clear hz3 hsrc3 hb3 c0 c1 c2 c3 HNW
    go_wp2_with fail
    have hbs3 := HB3.out.size
    refine (Go.Proofs.YtpmmolamdlcmnaaGreatDoor.new_in n w3 hn1 hn80).mono ?_
    rintro e w4 ⟨rfl, htab, hb4⟩
    have HSRC4 := Lib.hid (HSRC.out.below hb4.out HSRC.out.lt)
    have HB4 := Lib.hid (HB3.out.trans (hb4.out.mono HB3.out.size))
    have hs4 := htab.out.lt
    have hs34 := hb4.out.size
    have HN4 := Lib.hid (Go.Proofs.YtpmmolamdlcmnaaGreatDoor.next_any w2.heap.size _ w4 HSRC4.out)
    have hxm := mx_bounds (sh (seed (s : Int) (id : Int)))
    obtain ⟨x, hxx⟩ : ∃ x : Nat, mx (sh (seed (s : Int) (id : Int))) = (x : Int) := ⟨(mx (sh (seed (s : Int) (id : Int)))).toNat, by omega⟩
    have hx32 : x < 4294967296 := by omega
    rw [hxx] at HN4
    have HCH : Hid (some_ n (sh (seed (s : Int) (id : Int))) (degF n (atx n x)) = Q) := by
      show _ = _
      rw [← HQ.out]
      unfold chance
      rw [hxx, Int.toNat_natCast]
    generalize seed (s : Int) (id : Int) = sd at *
    have HHX := Lib.hid hx32
    clear hb4 HSRC HB3 hxm hxx hx32 HQ
    go_wp2_with fail
    refine HN4.out.mono ?_
    rintro e w5 ⟨rfl, hsrc5, hb5, hz5⟩
    have HTAB5 : Hid (Tab w5 w3.heap.size n 0 0 (.slice none 0 0)) := (hb5.block w3.heap.size hs4 (by omega)).trans htab.out
    have HSRC5 := Lib.hid hsrc5
    have HB5 := Lib.hid (HB4.out.trans (hb5.below (by omega) HB4.out.size))
    have hs5 : w5.heap.size = w4.heap.size := hz5
    have HZ5 := Lib.hid hs5
    clear hsrc5 hb5 hz5 hs5 htab HN4 HSRC4 HB4
    go_wp2_with fail
    refine (Go.Proofs.YtpmmolamdlcmnaaGreatDoor.degree_first w3.heap.size n x w5 HTAB5.out hn1 hn80 HHX.out).mono ?_
    rintro e w6 ⟨d, rfl, hdeg, _, hb6⟩
    have HD : Hid (degF n (atx n x) = d) := degF_eq hdeg.out hn80
    rw [HD.out] at HCH
    have hd1 := hdeg.out.1
    have hdn := hdeg.out.2.1
    have hz5 := HZ5.out
    have HSRC6 := Lib.hid (hb6.out.other HSRC5.out (by omega) (by omega))
    have HB6 := Lib.hid (HB5.out.trans (hb6.out.below (by omega) HB5.out.size))
    have hs6 := hb6.out.size
    have HZ6 : Hid (w4.heap.size ≤ w6.heap.size) := by show _ ≤ _; omega
    have HST := Lib.hid (Go.Proofs.YtpmmolamdlcmnaaGreatDoor.some_tot w2.heap.size n (sh sd) (d : Int) w6 HSRC6.out (by omega) d (by rw [kk_nat]; omega))
    clear hdeg hb6 HTAB5 HSRC5 HB5 hz5 hs6 HZ5 HD
    go_wp2_with fail
    refine HST.out.mono ?_
    rintro e w7 ⟨A7, c7, rfl, hrow7, _, hb7⟩
    have hz6 := HZ6.out
    have HB7 := Lib.hid (HB6.out.trans (hb7.out.below (by omega) HB6.out.size))
    have HO := Lib.hid (of_any n A7 d c7 _ (some_ n (sh sd) d) w7 hrow7.out (Nat.le_refl _) (by omega) (by omega))
    rw [HCH.out] at HO
    have hbs7 := HB7.out.size
    clear hrow7 hb7 HST HSRC6 HB6 hz6
    go_wp2_with fail
    refine HO.out.mono ?_
    rintro e w8 ⟨g, h, rfl, hg, hh, hv, hb8⟩
    have HE := Lib.hid (HB7.out.trans (hb8.out.mono HB7.out.size))
    have HG : Hid (w.heap.size ≤ g ∧ w.heap.size ≤ h) := ⟨by omega, by omega⟩
    clear hb8 hg hh
    go_wp2_with fail
    go_ret
    exact ⟨g, h, rfl, HG.out.1, HG.out.2, hv, HE⟩
end Go.Proofs.YtpmmolamdlcmnaaGreatDoor.Sp
namespace Go.Proofs.YtpmmolamdlcmnaaGreatDoor
/-- a's bytes, the first i of them changed by b's -/
def xl (a b : List UInt8) (i : Nat) : List UInt8 := (List.range a.length).map fun j => if j < i then a.getD j 0 ^^^ b.getD j 0 else a.getD j 0
theorem xl_length (a b : List UInt8) (i : Nat) : (xl a b i).length = a.length := by simp [xl]
theorem xl_get (a b : List UInt8) (i j : Nat) (h : j < a.length) : (xl a b i)[j]? = some (if j < i then a.getD j 0 ^^^ b.getD j 0 else a.getD j 0) := by simp [xl, h]
theorem xl_getD (a b : List UInt8) (i j : Nat) (h : j < a.length) : (xl a b i).getD j 0 = if j < i then a.getD j 0 ^^^ b.getD j 0 else a.getD j 0 := by
  rw [List.getD_eq_getElem?_getD, xl_get a b i j h]; rfl
theorem xl_zero (a b : List UInt8) : xl a b 0 = a := by
  apply List.ext_getElem?
  intro j
  by_cases h : j < a.length
  · rw [xl_get a b 0 j h, List.getElem?_eq_getElem h]; simp [List.getD, h]
  · rw [List.getElem?_eq_none (by rw [xl_length]; omega), List.getElem?_eq_none (by omega)]
theorem xl_set (a b : List UInt8) (i : Nat) (h : i < a.length) : (xl a b i).set i (a.getD i 0 ^^^ b.getD i 0) = xl a b (i + 1) := by
  apply List.ext_getElem?
  intro j
  rw [List.getElem?_set]
  by_cases hj : j < a.length
  · rw [xl_get a b (i + 1) j hj]
    by_cases e : i = j
    · subst e; simp [xl_length, h]
    · rw [if_neg e, xl_get a b i j hj]
      by_cases h1 : j < i
      · rw [if_pos h1, if_pos (by omega)]
      · rw [if_neg h1, if_neg (by omega)]
  · rw [List.getElem?_eq_none (by rw [xl_length]; omega)]
    rw [List.getElem?_eq_none (by rw [xl_length]; omega)]
    split
    · split
      · rename_i h3; rw [xl_length] at h3; omega
      · rfl
    · rfl
def xorL (a b : List UInt8) : List UInt8 := xl a b a.length
theorem xorL_length (a b : List UInt8) : (xorL a b).length = a.length := xl_length a b _
end Go.Proofs.YtpmmolamdlcmnaaGreatDoor
namespace Go.Proofs.YtpmmolamdlcmnaaGreatDoor.El
open Go.RowKit
open VecM Vc
/-- bytes l lie at the head of a block of their own -/
def DatAt (W : World) (A : Option Addr) (c : Nat) (l : List UInt8) : Prop := W.ownsRow 0 5 1 (.slice A l.length c) l.length (bv l)
def blk (A : Option Addr) : Option Nat := A.map (·.block)
theorem own_keep {W W' : World} {base n c : Nat} {e : TypeId} {A : Option Addr} {xs : List Value} (h : W.ownsRow base e 1 (.slice A n c) n xs) (hk : ∀ b, blk A = some b → W'.heap[b]? = W.heap[b]?) : W'.ownsRow base e 1 (.slice A n c) n xs := by
  refine ⟨h.1, ?_⟩
  rcases h.2 with h0 | ⟨g, cap, cur, hv, hb, hg, r⟩
  · exact .inl h0
  · refine .inr ⟨g, cap, cur, hv, hb, ?_, r⟩
    injection hv with e1
    rw [hk g (by rw [e1]; rfl)]
    exact hg
section
variable {W W' : World} {A : Option Addr} {c d : Nat} {l : List UInt8}
theorem DatAt.keep (h : DatAt W A c l) (hk : ∀ b, blk A = some b → W'.heap[b]? = W.heap[b]?) : DatAt W' A c l := own_keep h hk
theorem DatAt.row (h : DatAt W A c l) : Row W W.heap.size A l.length (bv l) := Row.of_own h
theorem DatAt.blk_u8 (h : DatAt W A c l) (hb : blk A = some d) : ∃ cur, W.heap[d]? = some (.cells cur 5 (0, 0)) := by
  rcases h.2 with ⟨h0, _⟩ | ⟨g, cap, cur, hv, _, hg, _⟩
  · injection h0 with e1; rw [e1] at hb; cases hb
  · injection hv with e1
    rw [e1] at hb
    injection hb with hb
    have hb : g = d := hb
    subst hb
    exact ⟨cur, hg⟩
theorem DatAt.lt (h : DatAt W A c l) (hb : blk A = some d) : d < W.heap.size := by
  obtain ⟨cur, hg⟩ := h.blk_u8 hb
  exact (Array.getElem?_eq_some_iff.1 hg).1
theorem DatAt.some (h : DatAt W A c l) (hl : 0 < l.length) : ∃ d, A = some ⟨d, 0, none⟩ := by
  rcases h.2 with ⟨_, h0⟩ | ⟨g, cap, cur, hv, _⟩
  · omega
  · injection hv with e1; exact ⟨g, e1⟩
end
/-- of unlike types blocks are others -/
theorem ne_of_types {W : World} {a b : Nat} {c1 c2 : Array Value} {t1 t2 : TypeId} {f1 f2 : Nat × Nat} (h1 : W.heap[a]? = some (.cells c1 t1 f1)) (h2 : W.heap[b]? = some (.cells c2 t2 f2)) (ht : t1 ≠ t2) : a ≠ b := by
  intro e; subst e; rw [h1] at h2; injection h2 with h2; injection h2 with _ h2 _; exact ht h2
theorem VecAt.hblk {W : World} {g h n X : Nat} (v : VecAt W g h n X) : ∃ cs, W.heap[h]? = some (.cells cs 53 (0, 0)) := by
  obtain ⟨_, _, _, cap, cs, _, h2, _⟩ := v; exact ⟨cs, h2⟩
theorem VecAt.gblk {W : World} {g h n X : Nat} (v : VecAt W g h n X) : ∃ cs, W.heap[g]? = some (.cells cs 116 (0, 0)) := by
  obtain ⟨_, _, _, cap, cs, h1, _⟩ := v; exact ⟨_, h1⟩
/-- a row of a matrix -/
structure ER where
  g : Nat
  h : Nat
  d : Nat
  c : Nat
  X : Nat
  l : List UInt8
def ptrOf : Option ER → Value
  | none => .pointer none
  | some r => .pointer (some ⟨r.g, 0, none⟩)
def slcOf : Option ER → Value
  | none => .slice none 0 0
  | some r => .slice (some ⟨r.d, 0, none⟩) r.l.length r.c
def rankE (rs : List (Option ER)) : Nat := (rs.filter Option.isSome).length
/-- block gm is a matrix of n columns, with data of z bytes; rs its rows, in block gr; all its blocks are of F -/
structure MatAt (W : World) (F : Nat → Prop) (gm gr n z : Nat) (rs : List (Option ER)) : Prop where
  n1 : 1 ≤ n
  n2 : n ≤ 256
  z1 : 1 ≤ z
  z2 : z ≤ 16
  len : rs.length = n
  head : W.heap[gm]? = some (.cells #[.int .i64 (n : Int), .int .i64 (z : Int), .slice (some ⟨gr, 0, none⟩) n n, .int .i64 (rankE rs : Int)] 88 (0, 0))
  rows : ∃ cs, W.heap[gr]? = some (.cells cs 91 (0, 0)) ∧ cs.size = n * 2 ∧ ∀ i, i < n → cs[i * 2]? = some (ptrOf (rs.getD i none)) ∧ cs[i * 2 + 1]? = some (slcOf (rs.getD i none))
  at_ : ∀ (i : Nat) (r : ER), rs[i]? = some (some r) → VecAt W r.g r.h n r.X ∧ DatAt W (some ⟨r.d, 0, none⟩) r.c r.l ∧ r.l.length = z ∧ F r.g ∧ F r.h ∧ F r.d
  apart : ∀ (i j : Nat) (r s : ER), i ≠ j → rs[i]? = some (some r) → rs[j]? = some (some s) → r.h ≠ s.h ∧ r.d ≠ s.d
  fm : F gm
  fr : F gr
section
variable {W W' : World} {F F' : Nat → Prop} {gm gr n z : Nat} {rs : List (Option ER)}
theorem MatAt.keep (m : MatAt W F gm gr n z rs) (hk : ∀ b, F b → b < W.heap.size → W'.heap[b]? = W.heap[b]?) : MatAt W' F gm gr n z rs := by
  have lt : ∀ {b o}, W.heap[b]? = some o → b < W.heap.size := fun h => (Array.getElem?_eq_some_iff.1 h).1
  refine ⟨m.n1, m.n2, m.z1, m.z2, m.len, (hk gm m.fm (lt m.head)).trans m.head, ?_, fun i r hr => ?_, m.apart, m.fm, m.fr⟩
  · obtain ⟨cs, h1, h2⟩ := m.rows
    exact ⟨cs, (hk gr m.fr (lt h1)).trans h1, h2⟩
  · obtain ⟨a1, a2, a3, a4, a5, a6⟩ := m.at_ i r hr
    refine ⟨a1.keep (hk _ a4 a1.lt.1) (hk _ a5 a1.lt.2), a2.keep fun b hb => ?_, a3, a4, a5, a6⟩
    injection hb with hb
    have hb : r.d = b := hb
    subst hb
    exact hk _ a6 (a2.lt rfl)
theorem MatAt.below (m : MatAt W F gm gr n z rs) (hb : Below W.heap.size W W') : MatAt W' F gm gr n z rs := m.keep fun b _ h => hb.block b h
theorem MatAt.lt (m : MatAt W F gm gr n z rs) : gm < W.heap.size ∧ gr < W.heap.size :=
  ⟨(Array.getElem?_eq_some_iff.1 m.head).1, by obtain ⟨cs, h, _⟩ := m.rows; exact (Array.getElem?_eq_some_iff.1 h).1⟩
theorem MatAt.more (m : MatAt W F gm gr n z rs) (hF : ∀ b, F b → F' b) : MatAt W F' gm gr n z rs :=
  ⟨m.n1, m.n2, m.z1, m.z2, m.len, m.head, m.rows, fun i r hr => by obtain ⟨a1, a2, a3, a4, a5, a6⟩ := m.at_ i r hr; exact ⟨a1, a2, a3, hF _ a4, hF _ a5, hF _ a6⟩, m.apart, hF _ m.fm, hF _ m.fr⟩
theorem MatAt.cells (m : MatAt W F gm gr n z rs) : W.cell? ⟨gm, 0, none⟩ = some (.int .i64 (n : Int)) ∧ W.cell? ⟨gm, 1, none⟩ = some (.int .i64 (z : Int)) ∧ W.cell? ⟨gm, 2, none⟩ = some (.slice (some ⟨gr, 0, none⟩) n n) ∧ W.cell? ⟨gm, 3, none⟩ = some (.int .i64 (rankE rs : Int)) := by
  refine ⟨?_, ?_, ?_, ?_⟩ <;> rw [cell_of_row W gm _ _ _ (0, 0) m.head] <;> rfl
theorem MatAt.row (m : MatAt W F gm gr n z rs) {i : Nat} (hi : i < n) : W.cell? ⟨gr, i * 2, none⟩ = some (ptrOf (rs.getD i none)) ∧ W.cell? ⟨gr, i * 2 + 1, none⟩ = some (slcOf (rs.getD i none)) := by
  obtain ⟨cs, h, _, hc⟩ := m.rows
  exact ⟨by rw [cell_of_row W gr _ cs _ (0, 0) h]; exact (hc i hi).1, by rw [cell_of_row W gr _ cs _ (0, 0) h]; exact (hc i hi).2⟩
theorem MatAt.frozen (m : MatAt W F gm gr n z rs) (k : Nat) : W.frozen? ⟨gr, k, none⟩ = false ∧ W.frozen? ⟨gm, k, none⟩ = false := by
  obtain ⟨cs, h, _⟩ := m.rows
  exact ⟨frozen_of_row W gr k cs _ h, frozen_of_row W gm k _ _ m.head⟩
end
set_option maxRecDepth 100000 in
theorem empty_nil (w : World) : Calls Tryz.prog 37 #[.pointer none] w fun e w' => e = .returned (.bool true) ∧ w = w' := by
  go_enter Tryz.func37, Tryz.ntmps37
  go_wp2_with fail
  go_ret
  exact ⟨rfl, rfl⟩
set_option maxRecDepth 100000 in
theorem empty_no (F : Nat → Prop) (gm gr n z : Nat) (rs : List (Option ER)) (w : World) (m : MatAt w F gm gr n z rs) : Calls Tryz.prog 37 #[.pointer (some ⟨gm, 0, none⟩)] w fun e w' => e = .returned (.bool false) ∧ w = w' := by
  obtain ⟨c0, _⟩ := m.cells
  have h1 := m.n1
  have hn : ((n : Int) == 0) = false := by simp; omega
  have hn0 : ¬ n = 0 := by omega
  clear m
  go_enter Tryz.func37, Tryz.ntmps37
  go_wp2_with fail
  go_ret
  exact ⟨rfl, rfl⟩
theorem rankE_rep (n : Nat) : rankE (List.replicate n none) = 0 := by
  unfold rankE
  rw [List.filter_eq_nil_iff.2]
  · rfl
  · intro a ha; rw [List.mem_replicate] at ha; rw [ha.2]; simp
theorem infoRow : (Tryz.prog.info? 91).map (fun i => (i.zero, i.size, i.bytes)) = some (some (.agg #[.pointer none, .slice none 0 0]), 2, 32) := by kernel_rfl
theorem made_rows (n : Nat) (hn : n ≤ 256) : ∃ C : Array Value, C.size = n * 2 ∧ (∀ i, i < n → C[i * 2]? = some (.pointer none) ∧ C[i * 2 + 1]? = some (.slice none 0 0)) ∧ ∀ w : World, (Instr.makeSlice 86 (.int .i64 (n : Int)) (.int .i64 (n : Int))).run Tryz.prog w = .ok (.slice (some ⟨w.heap.size, 0, none⟩) n n) (w.alloc (.cells C 91)) := by
  obtain ⟨i0, hi, hz0, hz1, hz2⟩ := info_parts infoRow
  have h := fun w => run_make (P := Tryz.prog) w 86 91 i0 (.agg #[.pointer none, .slice none 0 0]) Tryz.underlying86 hi hz0 .i64 .i64 (n : Int) (n : Int) (by omega) (by omega) (by rw [hz2]; omega) (by omega)
  refine ⟨madeCells #[.pointer none, .slice none 0 0] (n * 2), ?_, fun i hin => ?_, fun w => ?_⟩
  · simp [madeCells]
  · have e1 : i * 2 < n * 2 := by omega
    have e2 : i * 2 + 1 < n * 2 := by omega
    have e3 : i * 2 % 2 = 0 := by omega
    have e4 : (i * 2 + 1) % 2 = 1 := by omega
    constructor <;> simp [madeCells, e1, e2, e3, e4]
  · rw [h w, hz1]
    simp [Value.cells]
end Go.Proofs.YtpmmolamdlcmnaaGreatDoor.El
