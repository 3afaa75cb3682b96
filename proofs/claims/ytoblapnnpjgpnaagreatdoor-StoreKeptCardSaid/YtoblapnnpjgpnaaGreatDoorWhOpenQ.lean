/- Wheel: Open: by contract. -/
import Derived.Test.YtoblapnnpjgpnaaGreatDoorWhLookQ
import Derived.Test.YtoblapnnpjgpnaaGreatDoorWhPQ
namespace Go.Proofs.YtoblapnnpjgpnaaGreatDoor
open Go.RowKit
theorem opW_len (f : Fl) (gen size : Nat) (h1 : 1 ≤ size) (h2 : size ≤ 16) : ∀ k, (opW f gen size k).L.length ≤ k * 18
  | 0 => Nat.le_refl _
  | k + 1 => by
    have ih := opW_len f gen size h1 h2 k
    have hp := (per_bounds h1 h2).2.1
    have es := opW_size f gen size k
    show ((opW f gen size k).look k (f.sub (256 * (6 + k)) 256)).L.length ≤ _
    generalize opW f gen size k = x at *
    unfold Wh.look
    split
    · show (x.L ++ _).length ≤ _
      rw [List.length_append]
      have := recsUp_le x.gen x.wide (f.sub (256 * (6 + k)) 256) x.per
      have e : x.per = 256 / (size + 13) := by unfold Wh.per; rw [es]
      omega
    · omega
theorem look_any (P : Nat → Prop) (gw gf s B cap : Nat) (si : Int) (A : Option Addr) (h : Wh) (b : List UInt8) (w : World) (hsi : si = (s : Int)) (hW : WhAt P gw gf h w) (hs1 : 1 ≤ h.size) (hs2 : h.size ≤ 16) (hl : Row w B A 256 (bv b)) (hcap : 256 ≤ cap) (hcm : cap ≤ 9223372036854775807) (hB : B ≤ w.heap.size) (hgf : gf < w.heap.size) (hs : s < 8) (hm : h.L.length ≤ 500)
    (hA : ∀ g o, A = some ⟨g, o, none⟩ → ¬ P g) :
    Calls Tryz.prog 57 #[.pointer (some ⟨gw, 0, none⟩), .int .i64 si, .slice A 256 cap] w (LookOk P gw gf (h.look s b) w) := by
  subst hsi
  cases hp : plB h.gen (plAt b h.wide 0) with
  | true => exact look_yes P gw gf s B cap A h b w hW hs1 hs2 hl hcap hcm hB hgf hs hm hA hp
  | false => exact look_no P gw gf s B cap A h b w hW hs1 hs2 hl hcap hcm hB hgf hp
def OpenOk (gf : Nat) (h : Wh) (w : World) (e : Ending) (w' : World) : Prop :=
  ∃ gw, e = .returned (.tuple #[.pointer (some ⟨gw, 0, none⟩), .int .i64 0]) ∧ Hid (w.heap.size ≤ gw) ∧ Hid (WhAt (fun b => w.heap.size ≤ b ∧ b < w'.heap.size) gw gf h w') ∧ Hid (Below w.heap.size w w')
set_option maxRecDepth 100000 in
set_option maxHeartbeats 3200000 in
theorem open_any (gf gen size : Nat) (f : Fl) (w : World) (hf : FlAt w gf f) (hd : f.down = false) (hs1 : 1 ≤ size) (hs2 : size ≤ 16) :
    Calls Tryz.prog 24 #[.pointer (some ⟨gf, 0, none⟩), .int .u32 (gen : Int), .int .i64 (size : Int)] w (OpenOk gf (opW f gen size 8) w) := by
  have h1 : (1 : Int) ≤ size := by omega
  have h2 : (size : Int) ≤ 16 := by omega
  have HFL := Lib.hid hf.lt
  have HD := Lib.hid hd
  obtain ⟨wa, hwa⟩ : ∃ wa, w.alloc (.cells #[.pointer (some ⟨gf, 0, none⟩), .int .u32 (gen : Int), .int .i64 (size : Int), .slice none 0 0, .int .i64 (-1), .int .i64 0] 122) = wa := ⟨_, rfl⟩
  have HBA : Hid (Below w.heap.size w wa) := by rw [← hwa]; exact (Below.refl _ _).alloc (Nat.le_refl _) _
  have HF := Lib.hid (hf.below HBA.out)
  have hz : wa.heap[w.heap.size]? = some (.cells (wcells gf (opW f gen size 0) (.slice none 0 0)) 122 (0, 0)) := by rw [← hwa]; exact heap_alloc_new _ _
  have hsz : wa.heap.size = w.heap.size + 1 := by rw [← hwa]; simp
  have HWH : Hid (WhAt (fun b => w.heap.size ≤ b ∧ b < wa.heap.size) w.heap.size gf (opW f gen size 0) wa) := ⟨none, 0, 0, [], hz, ⟨Nat.le_refl _, by omega⟩, by have := HFL.out; omega, RecW.nil _ _, rfl⟩
  have HWA := Lib.hid hwa
  obtain ⟨gw, hgw⟩ : ∃ gw, w.heap.size = gw := ⟨_, rfl⟩
  have HGW := Lib.hid hgw
  clear hf hd hwa hz hsz hgw
  go_enter Tryz.func24, Tryz.ntmps24
  go_upto_region 4 with fail
  rw [HWA.out]
  clear HWA
  go_wp2_with fail
  rw [HGW.out]
  go_loopw [27] (fun i wr => ∃ k : Nat, k ≤ 8 ∧ i = .int .i64 k ∧ Hid (WhAt (fun b => w.heap.size ≤ b ∧ b < wr.heap.size) gw gf (opW f gen size k) wr) ∧ Hid (FlAt wr gf f) ∧ Hid (Below w.heap.size w wr)) (fun i _ => 8 - (intOf i).toNat)
  case atStart => exact ⟨0, by omega, rfl, (by rw [← HGW.out]; exact HWH), HF, HBA⟩
  case round =>
    clear HWH HF HBA
    obtain ⟨k, hk, rfl, hwh, hf, hb⟩ := hrel
    by_cases hlt : k < 8
    · have HST := Lib.hid (wstart_any k (k : Int) wr rfl (by omega))
      have HRD := Lib.hid (read_at (g := gf) (a := 256 * (6 + k)) (n := 256) (((256 * (6 + k) : Nat)) : Int) 256 rfl rfl hf.out HD.out (by omega))
      have HL := Lib.hid (f.sub_length (256 * (6 + k)) 256)
      go_wp2_with fail
      refine HST.out.mono ?_
      rintro e w' ⟨rfl, rfl⟩
      clear HST
      go_wp2_with fail
      refine HRD.out.mono ?_
      rintro e w1 ⟨A1, n1, c1, rfl, hn1, hown1, hb1⟩
      obtain rfl : n1 = 256 := hn1.out.trans HL.out
      have hc1 := own_cap hown1.out
      have hss := hb.out.size
      have HLK := Lib.hid (look_any (fun b => w.heap.size ≤ b ∧ b < wr.heap.size) gw gf k w1.heap.size c1 (k : Int) A1 (opW f gen size k) (f.sub (256 * (6 + k)) 256) w1 rfl (hwh.out.below hb1.out) (by rw [opW_size]; exact hs1) (by rw [opW_size]; exact hs2) (Row.of_own hown1.out) hc1.1 hc1.2 (Nat.le_refl _) (Nat.lt_of_lt_of_le (Nat.lt_of_lt_of_le HFL.out hss) hb1.out.size) hlt (by have := opW_len f gen size hs1 hs2 k; omega)
        (fun g o e => by
          obtain ⟨g2, c22, hv, hg2, _⟩ := hown1.out.form (by omega)
          injection hv with e1 e2 e3
          rw [e] at e1
          injection e1 with e1
          injection e1 with e1
          omega))
      have HB1 : Hid (Below w.heap.size w w1) := hb.out.trans (hb1.out.mono hss)
      have HF1 := Lib.hid (hf.out.below hb1.out)
      have HS1 := Lib.hid hb1.out.size
      have HSS := Lib.hid hss
      clear hown1 hn1 hc1 hb1 hwh hf hb HRD HL hss
      go_wp2_with fail
      refine HLK.out.mono ?_
      rintro e w2 ⟨rfl, hw2, hfr2⟩
      have hs2' := hfr2.out.size
      have HB2 : Hid (Below w.heap.size w w2) := HB1.out.trans (hfr2.out.below (fun b hb => hb.1) HB1.out.size)
      have HF2 : Hid (FlAt w2 gf f) := HF1.out.keep (hfr2.out.block gf HF1.out.lt (fun h => by have := HFL.out; omega))
      have HW2 : Hid (WhAt (fun b => w.heap.size ≤ b ∧ b < w2.heap.size) gw gf (opW f gen size (k + 1)) w2) := hw2.out.more (by
        rintro b (h | h)
        · exact ⟨h.1, by have := HS1.out; omega⟩
        · exact ⟨by have := HS1.out; have := HSS.out; omega, h.2⟩) (by have := HFL.out; omega)
      clear hw2 hfr2 hs2' HLK HB1 HF1 HS1 HSS
      go_wp2_with fail
      go_roundw
      case rel => exact ⟨k + 1, by omega, by go_num, HW2, HF2, HB2⟩
      case measure => simp [intOf]; omega
    · obtain rfl : k = 8 := by omega
      go_wp2_with fail
      go_ret2
      exact ⟨gw, rfl, by rw [HGW.out]; exact Nat.le_refl _, hwh, hb⟩
end Go.Proofs.YtoblapnnpjgpnaaGreatDoor
