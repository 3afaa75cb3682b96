/- soliton.add: by contract. -/
import Derived.Test.YtibleaaghhhjkaaDoorWeights
import Derived.Test.YtibleaaghhhjkaaDoorRand
namespace Go.Proofs.YtibleaaghhhjkaaDoor
open Go.RowKit
open SoM
def u6 (l : List Nat) : List Value := l.map fun (x : Nat) => Value.int .u64 (x : Int)
theorem u6_length (l : List Nat) : (u6 l).length = l.length := by simp [u6]
theorem u6_get (l : List Nat) (k : Nat) (h : k < l.length) : (u6 l)[k]? = some (.int .u64 (l.getD k 0 : Nat)) := by simp [u6, h, List.getD]
theorem sms_length (n k : Nat) : (sms n k).length = k := by simp [sms]
theorem sms_next (n k : Nat) : sms n (k + 1) = sms n k ++ [sm n (k + 1)] := by simp [sms, List.range_succ]
theorem ws_getD (n k : Nat) (h : k < n) : (ws n n).getD k 0 = wt n (k + 1) := by simp [ws, h, List.getD]
theorem Tryd.info48 : (Tryd.prog.info? 48).map (fun i => (i.zero, i.size, i.bytes)) = some (some (.int .u64 0), 1, 8) := by kernel_rfl
def AddOk (g n : Nat) (d m : Int) (w : World) (e : Ending) (w' : World) : Prop :=
  e = .returned (.tuple #[]) ∧ ∃ A c, Hid (Tab w' g n d m (.slice A n c)) ∧ Hid (w'.ownsRow w.heap.size 48 1 (.slice A n c) n (u6 (sms n n))) ∧ Hid (But w.heap.size g w w')
theorem Tab.set {w : World} {g n : Nat} {d m : Int} {v : Value} (h : Tab w g n d m v) (u : Value) : Tab (w.setCell ⟨g, 4, none⟩ u) g n d m u := by
  unfold Tab
  rw [heap_setCell_same w g 4 _ _ _ h]; rfl
set_option maxRecDepth 100000 in
set_option maxHeartbeats 3200000 in
theorem add_any (g n : Nat) (d m : Int) (w : World) (h : Tab w g n d m (.slice none 0 0)) (h1 : 1 ≤ n) (h2 : n ≤ 80) : Calls Tryd.prog 60 #[.pointer (some ⟨g, 0, none⟩)] w (AddOk g n d m w) := by
  obtain ⟨i0, hi, hz0, hz1, hz2⟩ := info_parts Tryd.info48
  have HT := Lib.hid h
  have hlt := h.lt
  clear h
  go_enter Tryd.func60, Tryd.ntmps60
  go_wp2_with fail
  refine (weights_any g n d m _ w HT.out h1 h2).mono ?_
  rintro e w1 ⟨Aw, cw, rfl, hown, hb1⟩
  have hs1 := hb1.out.size
  have HT1 := Lib.hid (HT.out.below hb1.out hlt)
  obtain ⟨gw, cw', hv, hgw, hgw1⟩ := hown.out.form (by omega)
  injection hv with e1 e2 e3
  subst e1 e3
  have HROW := Lib.hid (Row.of_own hown.out)
  clear hown
  go_wp2_with fail
  go_loopw [2, 8] (fun s z wr => ∃ (k : Nat) (Av : Option Addr) (cv : Nat), k ≤ n ∧ s = .int .u64 (sm n k : Nat) ∧ z = .int .i64 k ∧ Hid (Tab wr g n d m (.slice Av k cv)) ∧ Hid (wr.ownsRow w1.heap.size 48 1 (.slice Av k cv) k (u6 (sms n k))) ∧ Hid (But w1.heap.size g w1 wr)) (fun _ z _ => n - (intOf z).toNat)
  case atStart => exact ⟨0, none, 0, by omega, rfl, rfl, HT1, World.ownsRow_nil _ _ _ _, But.refl _ _ _⟩
  case round =>
    obtain ⟨k, Av, cv, hk, rfl, rfl, hT, hown, hbt⟩ := hrel
    clear HT1
    by_cases hlk : k < n
    · have hrow := HROW.out.but hbt.out (by intro b o e _; injection e with e; injection e with e1 e2; omega)
      obtain ⟨b, o, eA, _, hcw⟩ := hrow.cellAt hlk (uv_get _ k (by simp [ws]; exact hlk))
      injection eA with eA
      injection eA with eb eo
      subst eb eo
      rw [ws_getD n k hlk, Nat.zero_add] at hcw
      obtain ⟨b1, b2, _, b4, _, _, _⟩ := wt_bound n (k + 1) h1 h2 (by omega) (by omega)
      have hsn : sm n (k + 1) = sm n k + wt n (k + 1) := rfl
      have hnx := Lib.hid (sms_next n k)
      have HSN := Lib.hid hsn
      rw [hsn] at b4 hnx
      obtain ⟨_, _, _, _, c4⟩ := hT.out.cells
      generalize wt n (k + 1) = x at *
      generalize sm n k = s at *
      have hx2 : (s : Int) + (x : Int) ≤ 4000000 := by omega
      clear hrow hsn b1 b2 b4
      have hsz := hbt.out.size
      go_wp2_with (at_builtin; refine wpList_app rfl (.tmp 20) (.tmp 22) 59 rfl w1.heap.size 48 i0 (.int .u64 0) 8 Tryd.underlying59 hi hz0 hz1 hz2 rfl _ k _ rfl (hown.out.alloc _) _ _ 1 1 _ rfl (row_new wr _ _ _) (by intro u hu; simp at hu; subst hu; rfl) (by unfold maxLen; omega) (by omega) (by simp; omega) ?_; intro v2 w2 hown2 hg2 hat2; obtain ⟨A2, c2, rfl, _⟩ := own_slice hown2; have hb2 := below_app ((Below.refl w1.heap.size wr).alloc hsz _) (by simp; omega) (hown.out.alloc _) (Nat.le_refl _) hg2; have hT2 := hT.out.below hb2 (by omega); obtain ⟨_, _, _, _, d4⟩ := hT2.cells; have df := hT2.frozen 4; have HT2 := Lib.hid hT2; have HO2 := Lib.hid hown2; have HB2 := Lib.hid hb2; clear hown2 hg2 hat2 hb2 hT2)
      have hTn : Hid (Tab (w2.setCell ⟨g, 4, none⟩ (.slice A2 (k + 1) c2)) g n d m (.slice A2 (k + 1) c2)) := HT2.out.set _
      have hOn : Hid ((w2.setCell ⟨g, 4, none⟩ (.slice A2 (k + 1) c2)).ownsRow w1.heap.size 48 1 (.slice A2 (k + 1) c2) (k + 1) (u6 (sms n (k + 1)))) := by
        have h3 := own_but HO2.out ((But.refl w2.heap.size g w2).setSelf 4 (.slice A2 (k + 1) c2)) (by omega)
        show World.ownsRow _ _ _ _ _ _ _
        rw [hnx.out]
        simpa [u6] using h3
      have hBn : Hid (But w1.heap.size g w1 (w2.setCell ⟨g, 4, none⟩ (.slice A2 (k + 1) c2))) := (hbt.out.trans (But.of_below HB2.out)).setSelf 4 _
      clear d4 df c4 hcw
      go_roundw
      case rel => exact ⟨k + 1, A2, c2, by omega, by rw [HSN.out]; go_num, by go_num, hTn, hOn, hBn⟩
      case measure => simp [intOf]; omega
    · obtain rfl : n = k := by omega
      go_wp2_with fail
      go_end0
      exact ⟨rfl, Av, cv, hT, own_base hown.out hs1, (But.of_below hb1.out).trans (hbt.out.mono hs1)⟩
end Go.Proofs.YtibleaaghhhjkaaDoor
