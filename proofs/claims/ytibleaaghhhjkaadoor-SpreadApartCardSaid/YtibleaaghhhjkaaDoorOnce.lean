/- sync.Once, asked by one goroutine: its parts by contracts. -/
import Derived.Test.YtibleaaghhhjkaaDoorSolAdd
import Derived.Defers
import Derived.RegionCalls
import Derived.ChangeAlike
namespace Go.Proofs.YtibleaaghhhjkaaDoor
open Go.RowKit
open SoM
theorem disable (w : World) : (callFunc 103 #[]).run Tryd.prog w = .ok (.value (.tuple #[])) w := run_call_mark0 Tryd.func103 (by kernel_rfl) (by kernel_rfl) (by kernel_rfl) .disable (by kernel_rfl) w
theorem enable (w : World) : (callFunc 105 #[]).run Tryd.prog w = .ok (.value (.tuple #[])) w := run_call_mark0 Tryd.func105 (by kernel_rfl) (by kernel_rfl) (by kernel_rfl) .enable (by kernel_rfl) w
theorem acquire (a : Addr) (w : World) : (callFunc 106 #[.pointer (some a)]).run Tryd.prog w = .ok (.value (.tuple #[])) w := run_call_marked Tryd.func106 (by kernel_rfl) (by kernel_rfl) (by kernel_rfl) .acquire (by kernel_rfl) a w
theorem releaseMerge (a : Addr) (w : World) : (callFunc 108 #[.pointer (some a)]).run Tryd.prog w = .ok (.value (.tuple #[])) w := run_call_marked Tryd.func108 (by kernel_rfl) (by kernel_rfl) (by kernel_rfl) .releaseMerge (by kernel_rfl) a w
theorem store_deferred (a : Addr) (x : Value) (u : FrameMode) (w : World) (hc : w.cell? a = some x) (hz : w.frozen? a = false) :
    CallsD Tryd.prog 90 #[.pointer (some a), .bool true] u w fun e u' w' => u' = u ∧ (e = .returned (.tuple #[]) ∧ w' = w.drew.setCell a (.int .u32 1)) := by
  have hc' : w.drew.cell? a = some x := by go_simp
  have hz' : w.drew.frozen? a = false := by go_simp
  have hst := run_call_store (P := Tryd.prog) Tryd.func69 (by kernel_rfl) (by kernel_rfl) (by kernel_rfl) (by kernel_rfl) (k := .u32) (y := 1) hc' hz'
  go_enter_d Tryd.func90, Tryd.ntmps90
  go_wp2
  go_region_calls
  all_goals (go_end0; exact ⟨rfl, rfl⟩)
set_option maxRecDepth 100000 in
set_option maxHeartbeats 1600000 in
theorem unlock_deferred (a : Addr) (u : FrameMode) (w : World) (hc : w.cell? a = some (.int .i32 1)) (hz : w.frozen? a = false) :
    CallsD Tryd.prog 89 #[.pointer (some a)] u w fun e u' w' => u' = u ∧ (e = .returned (.tuple #[]) ∧ w' = w.setCell a (.int .i32 0)) := by
  have hd := disable
  have he := enable
  have hr := releaseMerge
  have hadd := run_call_add (P := Tryd.prog) Tryd.func109 (by kernel_rfl) (by kernel_rfl) (by kernel_rfl) .i32 (by kernel_rfl) (y := -1) (s := 0) hc hz (by simp [go_sem]; rfl)
  have hcv := run_convert_to_unsafe (P := Tryd.prog) (src := 141) (dst := 145) Tryd.underlying141 Tryd.underlying145 (by kernel_rfl) hc
  go_enter_d Tryd.func89, Tryd.ntmps89
  go_wp2
  go_end0
  go_wp2
  go_end0
  exact ⟨rfl, rfl⟩
set_option maxRecDepth 100000 in
set_option maxHeartbeats 1600000 in
theorem lock_free (a : Addr) (w : World) (hc : w.cell? a = some (.int .i32 0)) (hz : w.frozen? a = false) :
    Calls Tryd.prog 88 #[.pointer (some a)] w fun e w' => e = .returned (.tuple #[]) ∧ w' = w.setCell a (.int .i32 1) := by
  have hd := disable
  have he := enable
  have ha := acquire
  have hcas := run_call_cas_hit (P := Tryd.prog) Tryd.func104 (by kernel_rfl) (by kernel_rfl) (by kernel_rfl) .i32 (by kernel_rfl) (y := 1) hc hz
  have hc' : (w.setCell a (.int .i32 1)).cell? a = some (.int .i32 1) := World.cell?_setCell_same w a _ hc
  have hcv := run_convert_to_unsafe (P := Tryd.prog) (src := 141) (dst := 145) Tryd.underlying141 Tryd.underlying145 (by kernel_rfl) hc'
  go_enter Tryd.func88, Tryd.ntmps88
  go_wp2
  first | go_end0 | (simp only [Exit.inBlock, Exit.then]; refine bodyPost_ret (results_none rfl _ _ _) rfl ?_) | refine bodyPost_ret (results_none rfl _ _ _) rfl ?_
  go_wp2
  go_end0
  exact ⟨rfl, rfl⟩
theorem bload_no (a : Addr) (w : World) (hc : w.cell? a = some (.int .u32 0)) : Calls Tryd.prog 72 #[.pointer (some a)] w fun e w' => e = .returned (.bool false) ∧ w = w' := by
  have hl := run_call_load (P := Tryd.prog) Tryd.func75 (by kernel_rfl) (by kernel_rfl) (by kernel_rfl) .u32 (by kernel_rfl) hc
  go_enter Tryd.func72, Tryd.ntmps72
  go_wp2
  go_ret
  exact ⟨rfl, rfl⟩
theorem bload_yes (a : Addr) (w : World) (hc : w.cell? a = some (.int .u32 1)) : Calls Tryd.prog 72 #[.pointer (some a)] w fun e w' => e = .returned (.bool true) ∧ w = w' := by
  have hl := run_call_load (P := Tryd.prog) Tryd.func75 (by kernel_rfl) (by kernel_rfl) (by kernel_rfl) .u32 (by kernel_rfl) hc
  go_enter Tryd.func72, Tryd.ntmps72
  go_wp2
  go_ret
  exact ⟨rfl, rfl⟩
theorem Tab.setM {w : World} {g n : Nat} {d m : Int} {v : Value} (h : Tab w g n d m v) (m' : Int) : Tab (w.setCell ⟨g, 2, none⟩ (.int .i32 m')) g n d m' v := by
  unfold Tab
  rw [heap_setCell_same w g 2 _ _ _ h]; rfl
theorem Tab.setD {w : World} {g n : Nat} {d m : Int} {v : Value} (h : Tab w g n d m v) (d' : Int) : Tab (w.setCell ⟨g, 1, none⟩ (.int .u32 d')) g n d' m v := by
  unfold Tab
  rw [heap_setCell_same w g 1 _ _ _ h]; rfl
def DoOk (g n : Nat) (w : World) (e : Ending) (w' : World) : Prop :=
  e = .returned (.tuple #[]) ∧ ∃ A c, Hid (Tab w' g n 1 0 (.slice A n c)) ∧ Hid (w'.ownsRow w.heap.size 48 1 (.slice A n c) n (u6 (sms n n))) ∧ Hid (But w.heap.size g w w')
set_option maxRecDepth 100000 in
set_option maxHeartbeats 3200000 in
theorem slow_any (g n : Nat) (w : World) (h : Tab w g n 0 0 (.slice none 0 0)) (h1 : 1 ≤ n) (h2 : n ≤ 80) :
    Calls Tryd.prog 73 #[.pointer (some ⟨g, 1, none⟩), .func (.func 60) #[.pointer (some ⟨g, 0, none⟩)] #[]] w (DoOk g n w) := by
  have HT := Lib.hid h
  have hlt := h.lt
  have HTM := Lib.hid (h.setM 1)
  have hnot : ∀ (x : Bool) (w : World), (Op.unary .not (.bool x)).run Tryd.prog w = .ok (.bool (!x)) w := fun _ _ => rfl
  clear h
  go_enter_defers Tryd.func73, Tryd.ntmps73
  go_wp2_with (first | (go_at_call 88; refine (lock_free ⟨g, 2, none⟩ _ HT.out.cells.2.2.1 (HT.out.frozen 2)).mono ?_; rintro e w' ⟨rfl, rfl⟩) | (go_at_call 72; refine (bload_no _ _ HTM.out.cells.2.1).mono ?_; rintro e w' ⟨rfl, rfl⟩))
  refine (add_any g n 0 1 _ HTM.out h1 h2).mono ?_
  rintro e w2 ⟨rfl, A, c, hT2, hown2, hbt2⟩
  have hbt : Hid (But w.heap.size g w w2) := ((But.refl _ _ _).setSelf 2 _).trans (by simpa using hbt2.out)
  have hown : Hid (w2.ownsRow w.heap.size 48 1 (.slice A n c) n (u6 (sms n n))) := by show World.ownsRow _ _ _ _ _ _ _; simpa using hown2.out
  clear hbt2 hown2
  go_wp2
  have hT2d : Tab w2.drew g n 0 1 (.slice A n c) := hT2.out
  have HT3 := Lib.hid (hT2d.setD 1)
  refine leaves_cons (f := 90) (args := #[.pointer (some ⟨g, 1, none⟩), .bool true]) (by simp) (by simp [go_sem]) ?_
  refine (store_deferred ⟨g, 1, none⟩ (.int .u32 0) .returning _ hT2.out.cells.2.1 (hT2.out.frozen 1)).mono ?_
  rintro e u' w'' ⟨rfl, rfl, rfl⟩
  refine leaves_cons (f := 89) (args := #[.pointer (some ⟨g, 2, none⟩)]) (by simp [settle]) (by simp [go_sem]) ?_
  refine (unlock_deferred ⟨g, 2, none⟩ _ _ HT3.out.cells.2.2.1 (HT3.out.frozen 2)).mono ?_
  rintro e u' w'' ⟨rfl, rfl, rfl⟩
  simp [Leaves, settle, results, Tryd.results73]
  have hB : But w2.heap.size g w2 ((w2.drew.setCell ⟨g, 1, none⟩ (.int .u32 1)).setCell ⟨g, 2, none⟩ (.int .i32 0)) := ((But.of_below (Below.refl _ _).drew).setSelf 1 _).setSelf 2 _
  exact ⟨rfl, A, c, HT3.out.setM 0, own_but hown.out hB hlt, hbt.out.trans (hB.mono hbt.out.size)⟩
theorem do_first (g n : Nat) (w : World) (h : Tab w g n 0 0 (.slice none 0 0)) (h1 : 1 ≤ n) (h2 : n ≤ 80) :
    Calls Tryd.prog 59 #[.pointer (some ⟨g, 1, none⟩), .func (.func 60) #[.pointer (some ⟨g, 0, none⟩)] #[]] w (DoOk g n w) := by
  have HT := Lib.hid h
  have hnot : ∀ (x : Bool) (w : World), (Op.unary .not (.bool x)).run Tryd.prog w = .ok (.bool (!x)) w := fun _ _ => rfl
  clear h
  go_enter Tryd.func59, Tryd.ntmps59
  go_wp2_with (go_at_call 72; refine (bload_no _ _ HT.out.cells.2.1).mono ?_; rintro e w' ⟨rfl, rfl⟩)
  refine (slow_any g n w HT.out h1 h2).mono ?_
  rintro e w2 ⟨rfl, A, c, hT2, hown2, hbt2⟩
  go_wp2
  go_end0
  exact ⟨rfl, A, c, hT2, hown2, hbt2⟩
theorem do_done (g n : Nat) (v f : Value) (w : World) (h : Tab w g n 1 0 v) :
    Calls Tryd.prog 59 #[.pointer (some ⟨g, 1, none⟩), f] w (fun e w' => e = .returned (.tuple #[]) ∧ w = w') := by
  have HT := Lib.hid h
  have hnot : ∀ (x : Bool) (w : World), (Op.unary .not (.bool x)).run Tryd.prog w = .ok (.bool (!x)) w := fun _ _ => rfl
  clear h
  go_enter Tryd.func59, Tryd.ntmps59
  go_wp2_with (go_at_call 72; refine (bload_yes _ _ HT.out.cells.2.1).mono ?_; rintro e w' ⟨rfl, rfl⟩)
  go_end0
  exact ⟨rfl, rfl⟩
end Go.Proofs.YtibleaaghhhjkaaDoor
