/- Contracts of the functions that the law calls, part 5. -/
import Derived.Defers
import Derived.RegionCalls
import Derived.ChangeAlike
import Derived.Test.YtlpmammagebkfaaDoorZ4
namespace Go.Proofs.YtlpmammagebkfaaDoor
open Go.RowKit
open SoM
def u6 (l : List Nat) : List Value := l.map fun (x : Nat) => Value.int .u64 (x : Int)
theorem u6_length (l : List Nat) : (u6 l).length = l.length := by simp [u6]
theorem u6_get (l : List Nat) (k : Nat) (h : k < l.length) : (u6 l)[k]? = some (.int .u64 (l.getD k 0 : Nat)) := by simp [u6, h, List.getD]
theorem sms_length (n k : Nat) : (sms n k).length = k := by simp [sms]
theorem sms_next (n k : Nat) : sms n (k + 1) = sms n k ++ [sm n (k + 1)] := by simp [sms, List.range_succ]
theorem ws_getD (n k : Nat) (h : k < n) : (ws n n).getD k 0 = wt n (k + 1) := by simp [ws, h, List.getD]
theorem Tryd.info42 : (Tryd.prog.info? 42).map (fun i => (i.zero, i.size, i.bytes)) = some (some (.int .u64 0), 1, 8) := by kernel_rfl
def AddOk (g n : Nat) (d m : Int) (w : World) (e : Ending) (w' : World) : Prop :=
  e = .returned (.tuple #[]) ∧ ∃ A c, Hid (Tab w' g n d m (.slice A n c)) ∧ Hid (w'.ownsRow w.heap.size 42 1 (.slice A n c) n (u6 (sms n n))) ∧ Hid (But w.heap.size g w w')
theorem Tab.set {w : World} {g n : Nat} {d m : Int} {v : Value} (h : Tab w g n d m v) (u : Value) : Tab (w.setCell ⟨g, 4, none⟩ u) g n d m u := by
  unfold Tab
  rw [heap_setCell_same w g 4 _ _ _ h]; rfl
set_option maxRecDepth 100000 in
set_option maxHeartbeats 3200000 in
theorem add_any (g n : Nat) (d m : Int) (w : World) (h : Tab w g n d m (.slice none 0 0)) (h1 : 1 ≤ n) (h2 : n ≤ 80) : Calls Tryd.prog 42 #[.pointer (some ⟨g, 0, none⟩)] w (AddOk g n d m w) := by
  obtain ⟨i0, hi, hz0, hz1, hz2⟩ := info_parts Tryd.info42
  have HT := Lib.hid h
  have hlt := h.lt
  clear h
  go_enter Tryd.func42, Tryd.ntmps42
  go_wp2_with fail
  refine (weights_any g n d m _ w HT.out h1 h2).mono ?_
  rintro e w1 ⟨Aw, cw, rfl, hown, hb1⟩
  have hs1 := hb1.out.size
  have HT1 := Lib.hid (HT.out.below hb1.out hlt)
  obtain ⟨gw, cw', hv, hgw, hgw1⟩ := hown.out.form (by omega)
  injection hv with e1 e2 e3
  subst e1 e3
  have HROW := Lib.hid (Row.of_own hown.out)
  clear hown
  go_wp2_with fail
  go_loopw [2, 8] (fun s z wr => ∃ (k : Nat) (Av : Option Addr) (cv : Nat), k ≤ n ∧ s = .int .u64 (sm n k : Nat) ∧ z = .int .i64 k ∧ Hid (Tab wr g n d m (.slice Av k cv)) ∧ Hid (wr.ownsRow w1.heap.size 42 1 (.slice Av k cv) k (u6 (sms n k))) ∧ Hid (But w1.heap.size g w1 wr)) (fun _ z _ => n - (intOf z).toNat)
  case atStart => exact ⟨0, none, 0, by omega, rfl, rfl, HT1, World.ownsRow_nil _ _ _ _, But.refl _ _ _⟩
  case round =>
    obtain ⟨k, Av, cv, hk, rfl, rfl, hT, hown, hbt⟩ := hrel
    clear HT1
    by_cases hlk : k < n
    · have hrow := HROW.out.but hbt.out (by intro b o e _; injection e with e; injection e with e1 e2; omega)
      obtain ⟨b, o, eA, _, hcw⟩ := hrow.cellAt hlk (uv_get _ k (by simp [ws]; exact hlk))
      injection eA with eA
      injection eA with eb eo
      subst eb eo
      rw [ws_getD n k hlk, Nat.zero_add] at hcw
      obtain ⟨b1, b2, _, b4, _, _, _⟩ := wt_bound n (k + 1) h1 h2 (by omega) (by omega)
      have hsn : sm n (k + 1) = sm n k + wt n (k + 1) := rfl
      have hnx := Lib.hid (sms_next n k)
      have HSN := Lib.hid hsn
      rw [hsn] at b4 hnx
      obtain ⟨_, _, _, _, c4⟩ := hT.out.cells
      generalize wt n (k + 1) = x at *
      generalize sm n k = s at *
      have hx2 : (s : Int) + (x : Int) ≤ 4000000 := by omega
      clear hrow hsn b1 b2 b4
      have hsz := hbt.out.size
      go_wp2_with (at_builtin; refine wpList_app rfl (.tmp 20) (.tmp 22) 71 rfl w1.heap.size 42 i0 (.int .u64 0) 8 Tryd.underlying71 hi hz0 hz1 hz2 rfl _ k _ rfl (hown.out.alloc _) _ _ 1 1 _ rfl (row_new wr _ _ _) (by intro u hu; simp at hu; subst hu; rfl) (by unfold maxLen; omega) (by omega) (by simp; omega) ?_; intro v2 w2 hown2 hg2 hat2; obtain ⟨A2, c2, rfl, _⟩ := own_slice hown2; have hb2 := below_app ((Below.refl w1.heap.size wr).alloc hsz _) (by simp; omega) (hown.out.alloc _) (Nat.le_refl _) hg2; have hT2 := hT.out.below hb2 (by omega); obtain ⟨_, _, _, _, d4⟩ := hT2.cells; have df := hT2.frozen 4; have HT2 := Lib.hid hT2; have HO2 := Lib.hid hown2; have HB2 := Lib.hid hb2; clear hown2 hg2 hat2 hb2 hT2)
      have hTn : Hid (Tab (w2.setCell ⟨g, 4, none⟩ (.slice A2 (k + 1) c2)) g n d m (.slice A2 (k + 1) c2)) := HT2.out.set _
      have hOn : Hid ((w2.setCell ⟨g, 4, none⟩ (.slice A2 (k + 1) c2)).ownsRow w1.heap.size 42 1 (.slice A2 (k + 1) c2) (k + 1) (u6 (sms n (k + 1)))) := by
        have h3 := own_but HO2.out ((But.refl w2.heap.size g w2).setSelf 4 (.slice A2 (k + 1) c2)) (by omega)
        show World.ownsRow _ _ _ _ _ _ _
        rw [hnx.out]
        simpa [u6] using h3
      have hBn : Hid (But w1.heap.size g w1 (w2.setCell ⟨g, 4, none⟩ (.slice A2 (k + 1) c2))) := (hbt.out.trans (But.of_below HB2.out)).setSelf 4 _
      clear d4 df c4 hcw
      go_roundw
      case rel => exact ⟨k + 1, A2, c2, by omega, by rw [HSN.out]; go_num, by go_num, hTn, hOn, hBn⟩
      case measure => simp [intOf]; omega
    · obtain rfl : n = k := by omega
      go_wp2_with fail
      go_end0
      exact ⟨rfl, Av, cv, hT, own_base hown.out hs1, (But.of_below hb1.out).trans (hbt.out.mono hs1)⟩
end Go.Proofs.YtlpmammagebkfaaDoor
namespace Go.Proofs.YtlpmammagebkfaaDoor
open Go.RowKit
open SoM
theorem disable (w : World) : (callFunc 84 #[]).run Tryd.prog w = .ok (.value (.tuple #[])) w := run_call_mark0 Tryd.func84 (by kernel_rfl) (by kernel_rfl) (by kernel_rfl) .disable (by kernel_rfl) w
theorem enable (w : World) : (callFunc 86 #[]).run Tryd.prog w = .ok (.value (.tuple #[])) w := run_call_mark0 Tryd.func86 (by kernel_rfl) (by kernel_rfl) (by kernel_rfl) .enable (by kernel_rfl) w
theorem acquire (a : Addr) (w : World) : (callFunc 87 #[.pointer (some a)]).run Tryd.prog w = .ok (.value (.tuple #[])) w := run_call_marked Tryd.func87 (by kernel_rfl) (by kernel_rfl) (by kernel_rfl) .acquire (by kernel_rfl) a w
theorem releaseMerge (a : Addr) (w : World) : (callFunc 89 #[.pointer (some a)]).run Tryd.prog w = .ok (.value (.tuple #[])) w := run_call_marked Tryd.func89 (by kernel_rfl) (by kernel_rfl) (by kernel_rfl) .releaseMerge (by kernel_rfl) a w
theorem store_deferred (a : Addr) (x : Value) (u : FrameMode) (w : World) (hc : w.cell? a = some x) (hz : w.frozen? a = false) :
    CallsD Tryd.prog 58 #[.pointer (some a), .bool true] u w fun e u' w' => u' = u ∧ (e = .returned (.tuple #[]) ∧ w' = w.drew.setCell a (.int .u32 1)) := by
  have hc' : w.drew.cell? a = some x := by go_simp
  have hz' : w.drew.frozen? a = false := by go_simp
  have hst := run_call_store (P := Tryd.prog) Tryd.func51 (by kernel_rfl) (by kernel_rfl) (by kernel_rfl) (by kernel_rfl) (k := .u32) (y := 1) hc' hz'
  go_enter_d Tryd.func58, Tryd.ntmps58
  go_wp2
  go_region_calls
  all_goals (go_end0; exact ⟨rfl, rfl⟩)
set_option maxRecDepth 100000 in
set_option maxHeartbeats 1600000 in
theorem unlock_deferred (a : Addr) (u : FrameMode) (w : World) (hc : w.cell? a = some (.int .i32 1)) (hz : w.frozen? a = false) :
    CallsD Tryd.prog 57 #[.pointer (some a)] u w fun e u' w' => u' = u ∧ (e = .returned (.tuple #[]) ∧ w' = w.setCell a (.int .i32 0)) := by
  have hd := disable
  have he := enable
  have hr := releaseMerge
  have hadd := run_call_add (P := Tryd.prog) Tryd.func90 (by kernel_rfl) (by kernel_rfl) (by kernel_rfl) .i32 (by kernel_rfl) (y := -1) (s := 0) hc hz (by simp [go_sem]; rfl)
  have hcv := run_convert_to_unsafe (P := Tryd.prog) (src := 128) (dst := 132) Tryd.underlying128 Tryd.underlying132 (by kernel_rfl) hc
  go_enter_d Tryd.func57, Tryd.ntmps57
  go_wp2
  go_end0
  go_wp2
  go_end0
  exact ⟨rfl, rfl⟩
set_option maxRecDepth 100000 in
set_option maxHeartbeats 1600000 in
theorem lock_free (a : Addr) (w : World) (hc : w.cell? a = some (.int .i32 0)) (hz : w.frozen? a = false) :
    Calls Tryd.prog 56 #[.pointer (some a)] w fun e w' => e = .returned (.tuple #[]) ∧ w' = w.setCell a (.int .i32 1) := by
  have hd := disable
  have he := enable
  have ha := acquire
  have hcas := run_call_cas_hit (P := Tryd.prog) Tryd.func85 (by kernel_rfl) (by kernel_rfl) (by kernel_rfl) .i32 (by kernel_rfl) (y := 1) hc hz
  have hc' : (w.setCell a (.int .i32 1)).cell? a = some (.int .i32 1) := World.cell?_setCell_same w a _ hc
  have hcv := run_convert_to_unsafe (P := Tryd.prog) (src := 128) (dst := 132) Tryd.underlying128 Tryd.underlying132 (by kernel_rfl) hc'
  go_enter Tryd.func56, Tryd.ntmps56
  go_wp2
  first | go_end0 | (simp only [Exit.inBlock, Exit.then]; refine bodyPost_ret (results_none rfl _ _ _) rfl ?_) | refine bodyPost_ret (results_none rfl _ _ _) rfl ?_
  go_wp2
  go_end0
  exact ⟨rfl, rfl⟩
theorem bload_no (a : Addr) (w : World) (hc : w.cell? a = some (.int .u32 0)) : Calls Tryd.prog 45 #[.pointer (some a)] w fun e w' => e = .returned (.bool false) ∧ w = w' := by
  have hl := run_call_load (P := Tryd.prog) Tryd.func55 (by kernel_rfl) (by kernel_rfl) (by kernel_rfl) .u32 (by kernel_rfl) hc
  go_enter Tryd.func45, Tryd.ntmps45
  go_wp2
  go_ret
  exact ⟨rfl, rfl⟩
theorem bload_yes (a : Addr) (w : World) (hc : w.cell? a = some (.int .u32 1)) : Calls Tryd.prog 45 #[.pointer (some a)] w fun e w' => e = .returned (.bool true) ∧ w = w' := by
  have hl := run_call_load (P := Tryd.prog) Tryd.func55 (by kernel_rfl) (by kernel_rfl) (by kernel_rfl) .u32 (by kernel_rfl) hc
  go_enter Tryd.func45, Tryd.ntmps45
  go_wp2
  go_ret
  exact ⟨rfl, rfl⟩
theorem Tab.setM {w : World} {g n : Nat} {d m : Int} {v : Value} (h : Tab w g n d m v) (m' : Int) : Tab (w.setCell ⟨g, 2, none⟩ (.int .i32 m')) g n d m' v := by
  unfold Tab
  rw [heap_setCell_same w g 2 _ _ _ h]; rfl
theorem Tab.setD {w : World} {g n : Nat} {d m : Int} {v : Value} (h : Tab w g n d m v) (d' : Int) : Tab (w.setCell ⟨g, 1, none⟩ (.int .u32 d')) g n d' m v := by
  unfold Tab
  rw [heap_setCell_same w g 1 _ _ _ h]; rfl
def DoOk (g n : Nat) (w : World) (e : Ending) (w' : World) : Prop :=
  e = .returned (.tuple #[]) ∧ ∃ A c, Hid (Tab w' g n 1 0 (.slice A n c)) ∧ Hid (w'.ownsRow w.heap.size 42 1 (.slice A n c) n (u6 (sms n n))) ∧ Hid (But w.heap.size g w w')
set_option maxRecDepth 100000 in
set_option maxHeartbeats 3200000 in
theorem slow_any (g n : Nat) (w : World) (h : Tab w g n 0 0 (.slice none 0 0)) (h1 : 1 ≤ n) (h2 : n ≤ 80) :
    Calls Tryd.prog 46 #[.pointer (some ⟨g, 1, none⟩), .func (.func 42) #[.pointer (some ⟨g, 0, none⟩)] #[]] w (DoOk g n w) := by
  have HT := Lib.hid h
  have hlt := h.lt
  have HTM := Lib.hid (h.setM 1)
  have hnot : ∀ (x : Bool) (w : World), (Op.unary .not (.bool x)).run Tryd.prog w = .ok (.bool (!x)) w := fun _ _ => rfl
  clear h
  go_enter_defers Tryd.func46, Tryd.ntmps46
  go_wp2_with (first | (go_at_call 56; refine (lock_free ⟨g, 2, none⟩ _ HT.out.cells.2.2.1 (HT.out.frozen 2)).mono ?_; rintro e w' ⟨rfl, rfl⟩) | (go_at_call 45; refine (bload_no _ _ HTM.out.cells.2.1).mono ?_; rintro e w' ⟨rfl, rfl⟩))
  refine (add_any g n 0 1 _ HTM.out h1 h2).mono ?_
  rintro e w2 ⟨rfl, A, c, hT2, hown2, hbt2⟩
  have hbt : Hid (But w.heap.size g w w2) := ((But.refl _ _ _).setSelf 2 _).trans (by simpa using hbt2.out)
  have hown : Hid (w2.ownsRow w.heap.size 42 1 (.slice A n c) n (u6 (sms n n))) := by show World.ownsRow _ _ _ _ _ _ _; simpa using hown2.out
  clear hbt2 hown2
  go_wp2
  have hT2d : Tab w2.drew g n 0 1 (.slice A n c) := hT2.out
  have HT3 := Lib.hid (hT2d.setD 1)
  refine leaves_cons (f := 58) (args := #[.pointer (some ⟨g, 1, none⟩), .bool true]) (by simp) (by simp [go_sem]) ?_
  refine (store_deferred ⟨g, 1, none⟩ (.int .u32 0) .returning _ hT2.out.cells.2.1 (hT2.out.frozen 1)).mono ?_
  rintro e u' w'' ⟨rfl, rfl, rfl⟩
  refine leaves_cons (f := 57) (args := #[.pointer (some ⟨g, 2, none⟩)]) (by simp [settle]) (by simp [go_sem]) ?_
  refine (unlock_deferred ⟨g, 2, none⟩ _ _ HT3.out.cells.2.2.1 (HT3.out.frozen 2)).mono ?_
  rintro e u' w'' ⟨rfl, rfl, rfl⟩
  simp [Leaves, settle, results, Tryd.results46]
  have hB : But w2.heap.size g w2 ((w2.drew.setCell ⟨g, 1, none⟩ (.int .u32 1)).setCell ⟨g, 2, none⟩ (.int .i32 0)) := ((But.of_below (Below.refl _ _).drew).setSelf 1 _).setSelf 2 _
  exact ⟨rfl, A, c, HT3.out.setM 0, own_but hown.out hB hlt, hbt.out.trans (hB.mono hbt.out.size)⟩
theorem do_first (g n : Nat) (w : World) (h : Tab w g n 0 0 (.slice none 0 0)) (h1 : 1 ≤ n) (h2 : n ≤ 80) :
    Calls Tryd.prog 30 #[.pointer (some ⟨g, 1, none⟩), .func (.func 42) #[.pointer (some ⟨g, 0, none⟩)] #[]] w (DoOk g n w) := by
  have HT := Lib.hid h
  have hnot : ∀ (x : Bool) (w : World), (Op.unary .not (.bool x)).run Tryd.prog w = .ok (.bool (!x)) w := fun _ _ => rfl
  clear h
  go_enter Tryd.func30, Tryd.ntmps30
  go_wp2_with (go_at_call 45; refine (bload_no _ _ HT.out.cells.2.1).mono ?_; rintro e w' ⟨rfl, rfl⟩)
  refine (slow_any g n w HT.out h1 h2).mono ?_
  rintro e w2 ⟨rfl, A, c, hT2, hown2, hbt2⟩
  go_wp2
  go_end0
  exact ⟨rfl, A, c, hT2, hown2, hbt2⟩
theorem do_done (g n : Nat) (v f : Value) (w : World) (h : Tab w g n 1 0 v) :
    Calls Tryd.prog 30 #[.pointer (some ⟨g, 1, none⟩), f] w (fun e w' => e = .returned (.tuple #[]) ∧ w = w') := by
  have HT := Lib.hid h
  have hnot : ∀ (x : Bool) (w : World), (Op.unary .not (.bool x)).run Tryd.prog w = .ok (.bool (!x)) w := fun _ _ => rfl
  clear h
  go_enter Tryd.func30, Tryd.ntmps30
  go_wp2_with (go_at_call 45; refine (bload_yes _ _ HT.out.cells.2.1).mono ?_; rintro e w' ⟨rfl, rfl⟩)
  go_end0
  exact ⟨rfl, rfl⟩
end Go.Proofs.YtlpmammagebkfaaDoor
namespace Go.Proofs.YtlpmammagebkfaaDoor.Cd
open Go.RowKit
open SoM
theorem cells_set_other {w : World} {g o p : Nat} {cs : Array Value} {T : TypeId} {v u : Value} (h : w.heap[g]? = some (.cells cs T (0, 0))) (hp : cs[p]? = some u) (hne : o ≠ p) : ∃ cs2, (w.setCell ⟨g, o, none⟩ v).heap[g]? = some (.cells cs2 T (0, 0)) ∧ cs2[p]? = some u := by
  refine ⟨_, heap_setCell_same w g o _ _ v h, ?_⟩
  simp [hne, hp]
theorem cell_at {w : World} {g p : Nat} {cs : Array Value} {T : TypeId} {u : Value} (h : w.heap[g]? = some (.cells cs T (0, 0))) (hp : cs[p]? = some u) : w.cell? ⟨g, p, none⟩ = some u := by
  rw [cell_of_row w g _ _ T (0, 0) h]; exact hp
/-- the struct, its Once being done -/
def Locked (g o : Nat) (T : TypeId) (w : World) : Prop := ∃ cs, w.heap[g]? = some (.cells cs T (0, 0)) ∧ cs[o]? = some (.int .u32 0) ∧ cs[o + 1]? = some (.int .i32 1)
set_option maxRecDepth 100000 in
set_option maxHeartbeats 3200000 in
theorem slow_gen (g o : Nat) (T : TypeId) (cs : Array Value) (c : Value) (R : World → Prop) (w : World) (h : w.heap[g]? = some (.cells cs T (0, 0))) (hd : cs[o]? = some (.int .u32 0)) (hm : cs[o + 1]? = some (.int .i32 0))
    (HF : Calls Tryd.prog 31 #[c] (w.setCell ⟨g, o + 1, none⟩ (.int .i32 1)) fun e w2 => e = .returned (.tuple #[]) ∧ Hid (R w2) ∧ Hid (Locked g o T w2)) :
    Calls Tryd.prog 46 #[.pointer (some ⟨g, o, none⟩), .func (.func 31) #[] #[c]] w fun e w' => e = .returned (.tuple #[]) ∧ ∃ w2, Hid (R w2) ∧ w' = (w2.drew.setCell ⟨g, o, none⟩ (.int .u32 1)).setCell ⟨g, o + 1, none⟩ (.int .i32 0) := by
  have HC := Lib.hid (cell_at h hm)
  have HZ := Lib.hid (frozen_of_row w g (o + 1) _ _ h)
  have HD : Hid ((w.setCell ⟨g, o + 1, none⟩ (.int .i32 1)).cell? ⟨g, o, none⟩ = some (.int .u32 0)) := by
    obtain ⟨cs2, h1, h2⟩ := cells_set_other (o := o + 1) (v := .int .i32 1) h hd (by omega)
    exact cell_at h1 h2
  have HFF := Lib.hid HF
  have hnot : ∀ (x : Bool) (w : World), (Op.unary .not (.bool x)).run Tryd.prog w = .ok (.bool (!x)) w := fun _ _ => rfl
  clear h hd hm HF
  go_enter_defers Tryd.func46, Tryd.ntmps46
  go_wp2_with (first | (go_at_call 56; refine (lock_free ⟨g, o + 1, none⟩ _ HC.out HZ.out).mono ?_; rintro e w' ⟨rfl, rfl⟩) | (go_at_call 45; refine (bload_no _ _ HD.out).mono ?_; rintro e w' ⟨rfl, rfl⟩))
  refine HFF.out.mono ?_
  rintro e w2 ⟨rfl, HR, HL⟩
  clear HC HZ HD HFF
  go_wp2
  obtain ⟨cs2, h2, hd2, hm2⟩ := HL.out
  have h2d : w2.drew.heap[g]? = some (.cells cs2 T (0, 0)) := h2
  obtain ⟨cs3, h3, hm3⟩ := cells_set_other (o := o) (v := .int .u32 1) h2d hm2 (by omega)
  refine leaves_cons (f := 58) (args := #[.pointer (some ⟨g, o, none⟩), .bool true]) (by simp) (by simp [go_sem]) ?_
  refine (store_deferred ⟨g, o, none⟩ (.int .u32 0) .returning _ (cell_at h2 hd2) (frozen_of_row _ g o _ _ h2)).mono ?_
  rintro e u' w'' ⟨rfl, rfl, rfl⟩
  refine leaves_cons (f := 57) (args := #[.pointer (some ⟨g, o + 1, none⟩)]) (by simp [settle]) (by simp [go_sem]) ?_
  refine (unlock_deferred ⟨g, o + 1, none⟩ _ _ (cell_at h3 hm3) (frozen_of_row _ g (o + 1) _ _ h3)).mono ?_
  rintro e u' w'' ⟨rfl, rfl, rfl⟩
  simp [Leaves, settle, results, Tryd.results46]
  exact ⟨w2, HR, rfl⟩
set_option maxRecDepth 100000 in
theorem do_gen (g o : Nat) (T : TypeId) (cs : Array Value) (c : Value) (R : World → Prop) (w : World) (h : w.heap[g]? = some (.cells cs T (0, 0))) (hd : cs[o]? = some (.int .u32 0)) (hm : cs[o + 1]? = some (.int .i32 0))
    (HF : Calls Tryd.prog 31 #[c] (w.setCell ⟨g, o + 1, none⟩ (.int .i32 1)) fun e w2 => e = .returned (.tuple #[]) ∧ Hid (R w2) ∧ Hid (Locked g o T w2)) :
    Calls Tryd.prog 30 #[.pointer (some ⟨g, o, none⟩), .func (.func 31) #[] #[c]] w fun e w' => e = .returned (.tuple #[]) ∧ ∃ w2, Hid (R w2) ∧ w' = (w2.drew.setCell ⟨g, o, none⟩ (.int .u32 1)).setCell ⟨g, o + 1, none⟩ (.int .i32 0) := by
  have HD := Lib.hid (cell_at h hd)
  have HS := Lib.hid (slow_gen g o T cs c R w h hd hm HF)
  have hnot : ∀ (x : Bool) (w : World), (Op.unary .not (.bool x)).run Tryd.prog w = .ok (.bool (!x)) w := fun _ _ => rfl
  clear h hd hm HF
  go_enter Tryd.func30, Tryd.ntmps30
  go_wp2_with (go_at_call 45; refine (bload_no _ _ HD.out).mono ?_; rintro e w' ⟨rfl, rfl⟩)
  refine HS.out.mono ?_
  rintro e w3 ⟨rfl, w2, HR, rfl⟩
  go_wp2
  go_end0
  exact ⟨rfl, w2, HR, rfl⟩
set_option maxRecDepth 100000 in
theorem do_done_gen (g o : Nat) (T : TypeId) (cs : Array Value) (f : Value) (w : World) (h : w.heap[g]? = some (.cells cs T (0, 0))) (hd : cs[o]? = some (.int .u32 1)) :
    Calls Tryd.prog 30 #[.pointer (some ⟨g, o, none⟩), f] w (fun e w' => e = .returned (.tuple #[]) ∧ w = w') := by
  have HD := Lib.hid (cell_at h hd)
  have hnot : ∀ (x : Bool) (w : World), (Op.unary .not (.bool x)).run Tryd.prog w = .ok (.bool (!x)) w := fun _ _ => rfl
  clear h hd
  go_enter Tryd.func30, Tryd.ntmps30
  go_wp2_with (go_at_call 45; refine (bload_yes _ _ HD.out).mono ?_; rintro e w' ⟨rfl, rfl⟩)
  go_end0
  exact ⟨rfl, rfl⟩
end Go.Proofs.YtlpmammagebkfaaDoor.Cd
