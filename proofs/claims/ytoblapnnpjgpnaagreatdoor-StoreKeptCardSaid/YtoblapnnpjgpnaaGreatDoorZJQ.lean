/- Wheel: its places and records, what is opened, what is added, as data. -/
import Derived.Deep.RegionWith
import Derived.BigQuiet
import Derived.Deep.QuietTactic
import Derived.Maps.AppendAt
import Derived.Deep.RegionHeld3
import Derived.Deep.WholeRow
import Derived.Test.YtoblapnnpjgpnaaGreatDoorZAQ
import Derived.Test.YtoblapnnpjgpnaaGreatDoorZGQ
namespace Go.Proofs.YtoblapnnpjgpnaaGreatDoor
open Go.RowKit
instance rightDec (l : List UInt8) : Decidable (CrcM.right l) := by unfold CrcM.right; infer_instance
/-- a place's bytes: is it whole; its record -/
def plB (gen : Nat) (p : List UInt8) : Bool := decide (CrcM.right (p.take (p.length - 1)) ∧ p.getD (p.length - 1) 0 = 0 ∧ CrcM.number (p.take 4) = gen)
def plR (p : List UInt8) : Nat × List UInt8 := (CrcM.number ((p.drop 4).take 4), (p.take (p.length - 5)).drop 8)
/-- place i of a sector's bytes -/
def plAt (b : List UInt8) (wide i : Nat) : List UInt8 := (b.drop (i * wide)).take wide
theorem plAt_length {b : List UInt8} {wide i : Nat} (h : (i + 1) * wide ≤ b.length) : (plAt b wide i).length = wide := by
  unfold plAt
  rw [List.length_take, List.length_drop]
  rw [Nat.succ_mul] at h
  omega
def recsUp (gen wide : Nat) (b : List UInt8) : Nat → List (Nat × List UInt8)
  | 0 => []
  | i + 1 => recsUp gen wide b i ++ (if plB gen (plAt b wide i) then [plR (plAt b wide i)] else [])
def nextUp (wide base n0 : Nat) (b : List UInt8) : Nat → Nat
  | 0 => n0
  | i + 1 => if allFF (plAt b wide i) then nextUp wide base n0 b i else base + i + 1
structure Wh where
  gen : Nat
  size : Nat
  L : List (Nat × List UInt8)
  ready : Int
  next : Nat
def Wh.wide (h : Wh) : Nat := h.size + 13
def Wh.per (h : Wh) : Nat := 256 / (h.size + 13)
def Wh.look (h : Wh) (s : Nat) (b : List UInt8) : Wh :=
  if plB h.gen (plAt b h.wide 0) then { h with L := h.L ++ recsUp h.gen h.wide b h.per, ready := s, next := nextUp h.wide (s * h.per) h.next b h.per } else h
/-- behind k sectors -/
def opW (f : Fl) (gen size : Nat) : Nat → Wh
  | 0 => ⟨gen, size, [], -1, 0⟩
  | k + 1 => (opW f gen size k).look k (f.sub (256 * (6 + k)) 256)
theorem Wh.look_gen (h : Wh) (s : Nat) (b : List UInt8) : (h.look s b).gen = h.gen := by unfold Wh.look; split <;> rfl
theorem Wh.look_size (h : Wh) (s : Nat) (b : List UInt8) : (h.look s b).size = h.size := by unfold Wh.look; split <;> rfl
theorem opW_gen (f : Fl) (gen size : Nat) : ∀ k, (opW f gen size k).gen = gen
  | 0 => rfl
  | k + 1 => (Wh.look_gen _ _ _).trans (opW_gen f gen size k)
theorem opW_size (f : Fl) (gen size : Nat) : ∀ k, (opW f gen size k).size = size
  | 0 => rfl
  | k + 1 => (Wh.look_size _ _ _).trans (opW_size f gen size k)
theorem per_bounds {size : Nat} (h1 : 1 ≤ size) (h2 : size ≤ 16) : 8 ≤ 256 / (size + 13) ∧ 256 / (size + 13) ≤ 18 ∧ 256 / (size + 13) * (size + 13) ≤ 256 := by
  have h3 := Nat.div_mul_le_self 256 (size + 13)
  refine ⟨?_, ?_, h3⟩
  · rw [Nat.le_div_iff_mul_le (by omega)]; omega
  · exact Nat.le_of_lt_succ (Nat.div_lt_of_lt_mul (by omega))
theorem nextUp_le (wide base n0 : Nat) (b : List UInt8) (M : Nat) : ∀ k, n0 ≤ M → base + k ≤ M → nextUp wide base n0 b k ≤ M
  | 0, h, _ => h
  | k + 1, h, hk => by
    unfold nextUp
    split
    · exact nextUp_le wide base n0 b M k h (by omega)
    · omega
theorem opW_next (f : Fl) (gen size : Nat) : ∀ k, (opW f gen size k).next ≤ k * (256 / (size + 13))
  | 0 => Nat.zero_le _
  | k + 1 => by
    have ih := opW_next f gen size k
    have e : (k + 1) * (256 / (size + 13)) = k * (256 / (size + 13)) + 256 / (size + 13) := Nat.succ_mul _ _
    have es := opW_size f gen size k
    show ((opW f gen size k).look k (f.sub (256 * (6 + k)) 256)).next ≤ _
    generalize opW f gen size k = h at *
    unfold Wh.look
    split
    · refine nextUp_le _ _ _ _ _ _ (by rw [e]; exact Nat.le_trans ih (Nat.le_add_right _ _)) ?_
      unfold Wh.per
      rw [es, e]
      exact Nat.le_refl _
    · rw [e]; exact Nat.le_trans ih (Nat.le_add_right _ _)
/-- the bytes of a record, the mark among them -/
def wmsg (gen id : Nat) (d : List UInt8) : List UInt8 := CrcM.four gen ++ (CrcM.four id ++ d)
def wrec (gen id : Nat) (d : List UInt8) : List UInt8 := CrcM.put (wmsg gen id d) ++ [0]
theorem wmsg_length (gen id : Nat) (d : List UInt8) : (wmsg gen id d).length = d.length + 8 := by simp [wmsg, CrcM.four]
theorem wrec_length (gen id : Nat) (d : List UInt8) : (wrec gen id d).length = d.length + 13 := by simp [wrec, CrcM.put_length, wmsg_length]
/-- prepare: sector s of the wheel, erased if it has to be -/
def Fl.prepW (f : Fl) (ready : Int) (s : Nat) : Fl × Int :=
  if (s : Int) = ready then (f, 0) else if allFF (f.sub (256 * (6 + s)) 256) then (f, 0) else f.erase (6 + s)
theorem prepW_down (f : Fl) (ready : Int) (s : Nat) (h : (f.prepW ready s).2 = 0) : (f.prepW ready s).1.down = f.down := by
  unfold Fl.prepW at h ⊢
  split at h
  · rename_i h1; rw [if_pos h1]
  · rename_i h1
    rw [if_neg h1]
    split at h
    · rename_i h2; rw [if_pos h2]
    · rename_i h2; rw [if_neg h2]; exact erase_down_same f _ h
theorem Fl.Ok.prepW {f : Fl} {k : Int} (h : f.Ok k) (ready : Int) (s : Nat) : (f.prepW ready s).1.Ok (k + 1) := by
  unfold Fl.prepW
  split
  · exact h.more (by omega)
  · split
    · exact h.more (by omega)
    · exact h.erase _
/-- where place n stands -/
def Wh.at_ (h : Wh) (n : Nat) : Nat := 256 * (6 + n / h.per) + n % h.per * h.wide
def Wh.add (h : Wh) (f : Fl) (id : Nat) (d : List UInt8) : Wh × Fl × Int :=
  if d.length = h.size then
    if h.next = 8 * h.per then (h, f, 9)
    else if f.down then (h, f, 11)
    else
      if (f.prepW h.ready (h.next / h.per)).2 = 0 then
        if ((f.prepW h.ready (h.next / h.per)).1.prog (h.at_ h.next) (wrec h.gen id d)).2 = 0 then
          ({ h with L := h.L ++ [(id, d)], ready := (h.next / h.per : Nat), next := h.next + 1 }, ((f.prepW h.ready (h.next / h.per)).1.prog (h.at_ h.next) (wrec h.gen id d)).1, 0)
        else ({ h with ready := (h.next / h.per : Nat) }, (f.prepW h.ready (h.next / h.per)).1.prog (h.at_ h.next) (wrec h.gen id d))
      else (h, f.prepW h.ready (h.next / h.per))
  else (h, f, 1)
/-- how many places there are -/
def Wh.room (h : Wh) : Nat := 8 * h.per - h.next
/-- bounds that stay -/
structure Wh.Ok (h : Wh) : Prop where
  gen : h.gen < 4294967296
  size1 : 1 ≤ h.size
  size2 : h.size ≤ 16
  next : h.next ≤ 8 * h.per
  ready : -1 ≤ h.ready ∧ h.ready < 8
  many : h.L.length ≤ 1000
end Go.Proofs.YtoblapnnpjgpnaaGreatDoor
namespace Go.Proofs.YtoblapnnpjgpnaaGreatDoor
open Go.RowKit
theorem wsame {P : Program} {f : FuncId} {args : Array Value} {w : World} {v : Value} (h : Calls P f args w fun e w' => e = .returned v ∧ w = w') : Calls P f args w fun e w' => e = .returned v ∧ w' = w := h.mono fun _ _ ⟨h1, h2⟩ => ⟨h1, h2.symm⟩
theorem wstart_any (s : Nat) (si : Int) (w : World) (hsi : si = (s : Int)) (h : s ≤ 8) :
    Calls Tryz.prog 56 #[.int .i64 si] w fun e w' => e = .returned (.int .i64 ((256 * (6 + s) : Nat) : Int)) ∧ w = w' := by
  subst hsi
  have h8 : (s : Int) ≤ 8 := by omega
  have h0 : (0 : Int) ≤ (s : Int) := by omega
  have HE : Hid ((6 + (s : Int)) * 256 = ((256 * (6 + s) : Nat) : Int)) := by show _ = _; omega
  clear h
  go_enter Tryz.func56, Tryz.ntmps56
  go_wp2_with fail
  go_ret
  exact ⟨congrArg (fun z => Ending.returned (.int .i64 z)) HE.out, rfl⟩
section
variable (gw size : Nat) (w : World)
theorem wwide_any (hc : w.cell? ⟨gw, 2, none⟩ = some (.int .i64 (size : Int))) (h : size ≤ 16) :
    Calls Tryz.prog 92 #[.pointer (some ⟨gw, 0, none⟩)] w fun e w' => e = .returned (.int .i64 ((size + 13 : Nat) : Int)) ∧ w = w' := by
  have h8 : (size : Int) ≤ 16 := by omega
  have HE : Hid ((size : Int) + 13 = ((size + 13 : Nat) : Int)) := by show _ = _; omega
  clear h
  go_enter Tryz.func92, Tryz.ntmps92
  go_wp2_with fail
  go_ret
  exact ⟨congrArg (fun z => Ending.returned (.int .i64 z)) HE.out, rfl⟩
set_option maxRecDepth 100000 in
theorem wper_any (hc : w.cell? ⟨gw, 2, none⟩ = some (.int .i64 (size : Int))) (h1 : 1 ≤ size) (h : size ≤ 16) :
    Calls Tryz.prog 68 #[.pointer (some ⟨gw, 0, none⟩)] w fun e w' => e = .returned (.int .i64 ((256 / (size + 13) : Nat) : Int)) ∧ w = w' := by
  have HW := Lib.hid (wwide_any gw size w hc h)
  clear hc
  have hcase : size = 1 ∨ size = 2 ∨ size = 3 ∨ size = 4 ∨ size = 5 ∨ size = 6 ∨ size = 7 ∨ size = 8 ∨ size = 9 ∨ size = 10 ∨ size = 11 ∨ size = 12 ∨ size = 13 ∨ size = 14 ∨ size = 15 ∨ size = 16 := by omega
  clear h h1
  rcases hcase with rfl | rfl | rfl | rfl | rfl | rfl | rfl | rfl | rfl | rfl | rfl | rfl | rfl | rfl | rfl | rfl
  all_goals
    go_enter Tryz.func68, Tryz.ntmps68
    go_wp2_with fail
    refine HW.out.mono ?_
    rintro e w' ⟨rfl, rfl⟩
    go_wp2_with fail
    go_ret
    exact ⟨rfl, rfl⟩
end
set_option maxRecDepth 100000 in
set_option maxHeartbeats 400000 in
theorem wnumber_any (B cap : Nat) (A : Option Addr) (l : List UInt8) (w : World) (hl : Row w B A 4 (bv l)) :
    Calls Tryz.prog 126 #[.slice A 4 cap] w fun e w' => e = .returned (.int .u32 (CrcM.number l : Nat)) ∧ w = w' := by
  have HS : Hid (isNum 0 0 l) := ⟨rfl, by decide⟩
  have HN := Lib.hid hl.blen
  go_enter Tryz.func126, Tryz.ntmps126
  go_wp2
  go_loop [3, 8] (fun v i => ∃ (k x : Nat), k ≤ 4 ∧ Hid (isNum k x l) ∧ i = .int .i64 k ∧ v = .int .u32 x) (fun _ i => 4 - (intOf i).toNat)
  case atStart => exact ⟨0, 0, by omega, HS, rfl, rfl⟩
  case round =>
    obtain ⟨k, x, hk, hx, rfl, rfl⟩ := hrel
    by_cases hlt : k < 4
    · obtain ⟨b, o, rfl, _, hkl, hcell⟩ := hl.byteAt hlt
      obtain ⟨y, hy, hr⟩ := isNum_next hx.out hkl hlt
      have HY := Lib.hid hy
      clear hy
      have hb : (l[k].toNat : Int) ≤ 255 := by have := CrcM.b_lt l[k]; omega
      go_wp2
      go_round
      case rel => exact ⟨k + 1, y, by omega, hr, by go_num, HY.out⟩
      case measure => simp [intOf]; omega
    · have : k = 4 := by omega
      subst this
      go_wp2
      go_ret
      refine ⟨?_, rfl⟩
      have e := hx.out.1
      rw [List.take_of_length_le (by rw [HN.out]; omega)] at e
      rw [e]; rfl
set_option maxRecDepth 100000 in
set_option maxHeartbeats 400000 in
theorem wblank_any (B n cap : Nat) (A : Option Addr) (L : List UInt8) (w : World) (hl : Row w B A n (bv L)) (hn : n ≤ 1000) :
    Calls Tryz.prog 93 #[.slice A n cap] w fun e w' => e = .returned (.bool (allFF L)) ∧ w = w' := by
  have HSL := Lib.hid hl.blen
  go_enter Tryz.func93, Tryz.ntmps93
  go_wp2_with fail
  go_loop [7] (fun i => ∃ k : Nat, k ≤ n ∧ i = .int .i64 k ∧ Hid (∀ j (hj : j < L.length), j < k → L[j] = 255)) (fun i => n - (intOf i).toNat)
  case atStart => exact ⟨0, by omega, rfl, (show ∀ j (hj : j < L.length), j < 0 → L[j] = 255 from fun j _ hj => absurd hj (by omega))⟩
  case round =>
    obtain ⟨k, hk, rfl, hall⟩ := hrel
    by_cases hlt : k < n
    · obtain ⟨b, o, rfl, _, hkl, hcell⟩ := hl.byteAt hlt
      by_cases hx : L[k] = 255
      · have e6 : ((L[k].toNat : Int) != 255) = false := by rw [hx]; rfl
        have hall2 : Hid (∀ j (hj : j < L.length), j < k + 1 → L[j] = 255) := by
          intro j hj hjk
          by_cases e : j < k
          · exact hall.out j hj e
          · obtain rfl : j = k := by omega
            exact hx
        clear hx hall
        go_wp2_with fail
        go_round
        case rel => exact ⟨k + 1, by omega, by go_num, hall2⟩
        case measure => simp [intOf]; omega
      · have e6 : ((L[k].toNat : Int) != 255) = true := bne_iff_ne.2 fun e => hx (UInt8.toNat.inj (by rw [show L[k].toNat = 255 by omega]; rfl))
        have HNO := Lib.hid (allFF_no hkl hx)
        clear hx hall
        go_wp2_with fail
        go_ret
        exact ⟨by rw [HNO.out]; rfl, rfl⟩
    · obtain rfl : n = k := by omega
      have HY : Hid (allFF L = true) := by
        show allFF L = true
        unfold allFF
        rw [List.all_eq_true]
        intro x hx
        obtain ⟨j, hj, rfl⟩ := List.getElem_of_mem hx
        have := hall.out j hj (by have := HSL.out; omega)
        simpa using this
      clear hall
      go_wp2_with fail
      go_ret
      exact ⟨by rw [HY.out]; rfl, rfl⟩
end Go.Proofs.YtoblapnnpjgpnaaGreatDoor
namespace Go.Proofs.YtoblapnnpjgpnaaGreatDoor
open Go.RowKit
def recZ : Obj := .cells #[.int .u32 0, .slice none 0 0] 70
/-- record's answer -/
def RecYes (p : List UInt8) (w : World) (e : Ending) (w' : World) : Prop :=
  ∃ g o m c, e = .returned (.tuple #[.agg #[.int .u32 ((plR p).1 : Nat), .slice (some ⟨g, o, none⟩) m c], .bool true]) ∧ Hid (m = (plR p).2.length) ∧ Hid (w.heap.size ≤ g ∧ g < w'.heap.size ∧ Row w' w'.heap.size (some ⟨g, o, none⟩) m (bv (plR p).2)) ∧ Hid (Below w.heap.size w w')
def RecNo (w : World) (e : Ending) (w' : World) : Prop := e = .returned (.tuple #[.agg #[.int .u32 0, .slice none 0 0], .bool false]) ∧ Hid (Below w.heap.size w w')
theorem results_ctw {P : Program} {fn : Func} {p u : Tmp} {ty : TypeId} (h : fn.results = #[.cell p ty, .tmp u]) (tmps : Array Value) (w : World) (g : Nat) (t : TypeId) (cs : Array Value) (fr : Nat × Nat) (d : TypeDesc)
    (hp : tmps.getD p undef = .pointer (some ⟨g, 0, none⟩)) (hg : w.heap[g]? = some (.cells cs t fr))
    (hu : P.underlying ty = some d) (hd : (match d with | .struct _ | .array _ _ => true | _ => false) = true) (hi : (P.info? ty).map (·.size) = some cs.size) :
    (results fn tmps).run P w = .ok (.tuple #[.agg cs, tmps.getD u undef]) w := by
  have hp' : tmps[p]?.getD undef = .pointer (some ⟨g, 0, none⟩) := by simpa using hp
  simp [results, h, hp', asAddr, run_loadVar_row w g t ty cs fr d hg hu hd hi]
theorem two_set {w : World} {g : Nat} {a b : Value} {t : TypeId} (h : w.heap[g]? = some (.cells #[a, b] t (0, 0))) (x y : Value) : ((w.setCell ⟨g, 0, none⟩ x).setCell ⟨g, 1, none⟩ y).heap[g]? = some (.cells #[x, y] t (0, 0)) :=
  heap_setCell_same _ g 1 _ t y (heap_setCell_same w g 0 _ t x h)
theorem rc2 {W : World} {g : Nat} {a b : Value} {t : TypeId} (h : W.heap[g]? = some (.cells #[a, b] t (0, 0))) : W.cell? ⟨g, 0, none⟩ = some a ∧ W.cell? ⟨g, 1, none⟩ = some b := by
  refine ⟨?_, ?_⟩ <;> (rw [cell_of_row W g _ _ _ (0, 0) h]; rfl)
theorem plB_yes {gen : Nat} {p : List UInt8} (h : plB gen p = true) : CrcM.right (p.take (p.length - 1)) ∧ p.getD (p.length - 1) 0 = 0 ∧ CrcM.number (p.take 4) = gen := of_decide_eq_true h
theorem plB_no {gen : Nat} {p : List UInt8} (h : plB gen p = false) : ¬ (CrcM.right (p.take (p.length - 1)) ∧ p.getD (p.length - 1) 0 = 0 ∧ CrcM.number (p.take 4) = gen) := of_decide_eq_false h
set_option maxRecDepth 100000 in
set_option maxHeartbeats 1600000 in
theorem rec_no (gw B k cap gen : Nat) (A : Option Addr) (p : List UInt8) (w : World) (hl : Row w B A (k + 1) (bv p)) (hk1 : 13 ≤ k) (hk2 : k ≤ 1000) (hcap : k + 1 ≤ cap) (hcm : cap ≤ 9223372036854775807) (hB : B ≤ w.heap.size) (hgw : gw < w.heap.size)
    (hc : w.cell? ⟨gw, 1, none⟩ = some (.int .u32 (gen : Int))) (h : plB gen p = false) :
    Calls Tryz.prog 91 #[.pointer (some ⟨gw, 0, none⟩), .slice A (k + 1) cap] w (RecNo w) := by
  have hbl := hl.blen
  have hno := plB_no h
  rw [show p.length - 1 = k by omega] at hno
  have HNO := Lib.hid hno
  clear hno
  have HBL := Lib.hid hbl
  obtain ⟨b, o, rfl, _, hkl, hm⟩ := (hl.alloc hB recZ).byteAt (k := k) (by omega)
  have HHD : Hid (Row (w.alloc recZ) B (some ⟨b, o, none⟩) k (bv (p.take k))) := by
    have := (hl.alloc hB recZ).head (k := k) (by omega)
    rwa [bv_take] at this
  have HBA : Hid (Below w.heap.size w (w.alloc recZ)) := (Below.refl _ _).alloc (Nat.le_refl _) _
  have HZ := Lib.hid (heap_alloc_new w recZ)
  have hc' : (w.alloc recZ).cell? ⟨gw, 1, none⟩ = some (.int .u32 (gen : Int)) := (HBA.out.cell (p := ⟨gw, 1, none⟩) hgw).trans hc
  have HC := Lib.hid hc'
  have HM := Lib.hid hm
  have hki : (k : Int) ≤ cap := by omega
  have hkj : (k : Int) < (k : Int) + 1 := by omega
  have HSZ : Hid ((w.alloc recZ).heap.size = w.heap.size + 1) := by show _ = _; simp
  have HBB := Lib.hid (show B ≤ (w.alloc recZ).heap.size by have := HBA.out.size; omega)
  obtain ⟨x, hx⟩ : ∃ x, p[k] = x := ⟨_, rfl⟩
  rw [hx] at HM
  have HX := Lib.hid hx
  clear hl h hc hc' hbl hm hx
  by_cases hr : CrcM.right (p.take k)
  · have HY := Lib.hid (right_yes B k cap (some ⟨b, o, none⟩) (p.take k) (w.alloc recZ) HHD.out (by omega) hcm (by omega) HBB.out hr)
    have HRR := Lib.hid hr
    clear hr
    unfold recZ at HY HZ HBA HC HM HSZ HBB
    go_enter Tryz.func91, Tryz.ntmps91
    go_wp2_with fail
    refine HY.out.mono ?_
    rintro e w2 ⟨A2, n2, c2, rfl, hn2, hown2, hb2⟩
    have HZ2 : Hid (w2.heap[w.heap.size]? = some recZ) := (hb2.block w.heap.size (by have := HSZ.out; omega)).trans HZ.out
    have HB2 : Hid (Below w.heap.size w w2) := HBA.out.trans (hb2.mono HBA.out.size)
    have hgl : gw < (w.alloc recZ).heap.size := Nat.lt_of_lt_of_le hgw HBA.out.size
    have hc2 := (hb2.cell (p := ⟨gw, 1, none⟩) hgl).trans HC.out
    have hm2 := (hb2.cell (p := ⟨b, o + k, none⟩) (by have := HBB.out; simp only []; omega)).trans HM.out
    have y := rc2 (show w2.heap[w.heap.size]? = some (.cells #[.int .u32 0, .slice none 0 0] 70 (0, 0)) from HZ2.out)
    have y0 := y.1
    have y1 := y.2
    have z0 := frozen_of_row w2 w.heap.size 0 _ _ HZ2.out
    have z1 := frozen_of_row w2 w.heap.size 1 _ _ HZ2.out
    clear y
    obtain rfl : n2 = k - 4 := by have := hn2.out; rw [this]; simp; have := HBL.out; omega
    obtain ⟨G, cG, hv, hG1, hG2⟩ := hown2.form (by omega)
    injection hv with e1 e2 e3
    subst e1 e3
    have hcc := own_cap hown2
    have hrw := Row.of_own hown2
    have hml : (p.take k).take ((p.take k).length - 4) = p.take (k - 4) := by
      rw [List.length_take, HBL.out, Nat.min_eq_left (by omega), List.take_take, Nat.min_eq_left (by omega)]
    rw [hml] at hrw
    have h4r : Row w2 w2.heap.size (some ⟨G, 0, none⟩) 4 (bv (p.take 4)) := by
      have := hrw.head (k := 4) (by omega)
      rwa [bv_take, List.take_take, Nat.min_eq_left (by omega)] at this
    have HN4 := Lib.hid (fun q cap => wnumber_any w2.heap.size cap _ _ (w2.drewN q) (h4r.drewN q))
    have h4c : (4 : Int) ≤ c2 := by omega
    have h4k : (4 : Int) ≤ ((k - 4 : Nat) : Int) := by omega
    by_cases hx : x = 0
    · have hxb : ((x.toNat : Int) != 0) = false := by rw [hx]; rfl
      have hne : CrcM.number (p.take 4) ≠ gen := fun e => HNO.out ⟨HRR.out, by
        have := HX.out
        rw [hx] at this
        have hkp : k < p.length := by have := HBL.out; omega
        simp [List.getD, hkp, this], e⟩
      have hnb : (((CrcM.number (p.take 4) : Nat) : Int) != (gen : Int)) = true := bne_iff_ne.2 fun e => hne (Int.ofNat.inj e)
      have HNB := Lib.hid hnb
      generalize CrcM.number (p.take 4) = nm at *
      have hnb := HNB.out
      clear hx hne hb2 HY hcc hrw h4r hown2 hG1 hG2 HNB
      go_wp2_with fail
      go_quiet ((go_at_call 126; with_reducible exact Calls.quiet_of_same (wsame (HN4.out _ _))))
      go_wp2_with fail
      have hrow := two_set (show (w2.drewN nq).heap[w.heap.size]? = some _ from HZ2.out) (.int .u32 0) (.slice none 0 0)
      refine bodyPost_ret (results_ctw rfl _ _ w.heap.size _ _ (0, 0) _ rfl hrow Tryz.underlying70 rfl (by kernel_rfl)) rfl ?_
      exact ⟨rfl, ((below_drewN HB2.out nq).setCell (Nat.le_refl _) _).setCell (Nat.le_refl _) _⟩
    · have hxb : ((x.toNat : Int) != 0) = true := bne_iff_ne.2 fun e => hx (UInt8.toNat.inj (Int.ofNat.inj e))
      clear hx hb2 HY hcc hrw h4r hown2 hG1 hG2
      go_wp2_with fail
      go_quiet ((go_at_call 126; with_reducible exact Calls.quiet_of_same (wsame (HN4.out _ _))))
      go_wp2_with fail
      have hrow := two_set (show (w2.drewN nq).heap[w.heap.size]? = some _ from HZ2.out) (.int .u32 0) (.slice none 0 0)
      refine bodyPost_ret (results_ctw rfl _ _ w.heap.size _ _ (0, 0) _ rfl hrow Tryz.underlying70 rfl (by kernel_rfl)) rfl ?_
      exact ⟨rfl, ((below_drewN HB2.out nq).setCell (Nat.le_refl _) _).setCell (Nat.le_refl _) _⟩
  · have HN := Lib.hid (right_no B k cap (some ⟨b, o, none⟩) (p.take k) (w.alloc recZ) HHD.out (by omega) hcm HBB.out hr)
    clear hr
    unfold recZ at HN HZ HBA HC HM HSZ HBB
    go_enter Tryz.func91, Tryz.ntmps91
    go_wp2_with fail
    refine HN.out.mono ?_
    rintro e w2 ⟨rfl, hb2⟩
    have HZ2 : Hid (w2.heap[w.heap.size]? = some recZ) := (hb2.block w.heap.size (by have := HSZ.out; omega)).trans HZ.out
    have HB2 : Hid (Below w.heap.size w w2) := HBA.out.trans (hb2.mono HBA.out.size)
    have hgl : gw < (w.alloc recZ).heap.size := Nat.lt_of_lt_of_le hgw HBA.out.size
    have hc2 := (hb2.cell (p := ⟨gw, 1, none⟩) hgl).trans HC.out
    have hm2 := (hb2.cell (p := ⟨b, o + k, none⟩) (by have := HBB.out; simp only []; omega)).trans HM.out
    have y := rc2 (show w2.heap[w.heap.size]? = some (.cells #[.int .u32 0, .slice none 0 0] 70 (0, 0)) from HZ2.out)
    have y0 := y.1
    have y1 := y.2
    have z0 := frozen_of_row w2 w.heap.size 0 _ _ HZ2.out
    have z1 := frozen_of_row w2 w.heap.size 1 _ _ HZ2.out
    clear y
    clear hb2 HN
    go_wp2_with fail
    go_quiet (fail)
    go_wp2_with fail
    have hrow := two_set (show (w2.drewN nq).heap[w.heap.size]? = some _ from HZ2.out) (.int .u32 0) (.slice none 0 0)
    refine bodyPost_ret (results_ctw rfl _ _ w.heap.size _ _ (0, 0) _ rfl hrow Tryz.underlying70 rfl (by kernel_rfl)) rfl ?_
    exact ⟨rfl, ((below_drewN HB2.out nq).setCell (Nat.le_refl _) _).setCell (Nat.le_refl _) _⟩
set_option maxRecDepth 100000 in
set_option maxHeartbeats 3200000 in
theorem rec_yes (gw B k cap gen : Nat) (A : Option Addr) (p : List UInt8) (w : World) (hl : Row w B A (k + 1) (bv p)) (hk1 : 13 ≤ k) (hk2 : k ≤ 1000) (hcap : k + 1 ≤ cap) (hcm : cap ≤ 9223372036854775807) (hB : B ≤ w.heap.size) (hgw : gw < w.heap.size)
    (hc : w.cell? ⟨gw, 1, none⟩ = some (.int .u32 (gen : Int))) (h : plB gen p = true) :
    Calls Tryz.prog 91 #[.pointer (some ⟨gw, 0, none⟩), .slice A (k + 1) cap] w (RecYes p w) := by
  have hbl := hl.blen
  have HBL := Lib.hid hbl
  have hyes := plB_yes h
  rw [show p.length - 1 = k by omega] at hyes
  obtain ⟨hr, hx0, hg⟩ := hyes
  obtain ⟨b, o, rfl, _, hkl, hm⟩ := (hl.alloc hB recZ).byteAt (k := k) (by omega)
  have HHD : Hid (Row (w.alloc recZ) B (some ⟨b, o, none⟩) k (bv (p.take k))) := by
    have := (hl.alloc hB recZ).head (k := k) (by omega)
    rwa [bv_take] at this
  have HBA : Hid (Below w.heap.size w (w.alloc recZ)) := (Below.refl _ _).alloc (Nat.le_refl _) _
  have HZ := Lib.hid (heap_alloc_new w recZ)
  have hc' : (w.alloc recZ).cell? ⟨gw, 1, none⟩ = some (.int .u32 (gen : Int)) := (HBA.out.cell (p := ⟨gw, 1, none⟩) hgw).trans hc
  have HC := Lib.hid hc'
  have HM := Lib.hid hm
  have hki : (k : Int) ≤ cap := by omega
  have hkj : (k : Int) < (k : Int) + 1 := by omega
  have HSZ : Hid ((w.alloc recZ).heap.size = w.heap.size + 1) := by show _ = _; simp
  have HBB := Lib.hid (show B ≤ (w.alloc recZ).heap.size by have := HBA.out.size; omega)
  obtain ⟨x, hx⟩ : ∃ x, p[k] = x := ⟨_, rfl⟩
  rw [hx] at HM
  have HX := Lib.hid hx
  clear hl h hc hc' hbl hm hx
  have HY := Lib.hid (right_yes B k cap (some ⟨b, o, none⟩) (p.take k) (w.alloc recZ) HHD.out (by omega) hcm (by omega) HBB.out hr)
  have hxx : x = 0 := by
    have hkp : k < p.length := by have := HBL.out; omega
    rw [← HX.out]
    simpa [List.getD, hkp] using hx0
  have hxb : ((x.toNat : Int) != 0) = false := by rw [hxx]; rfl
  have hnb : (((CrcM.number (p.take 4) : Nat) : Int) != (gen : Int)) = false := by rw [hg]; exact bne_self_eq_false _
  have HNB := Lib.hid hnb
  clear hr hx0 hg hxx hnb
  unfold recZ at HY HZ HBA HC HM HSZ HBB
  go_enter Tryz.func91, Tryz.ntmps91
  go_wp2_with fail
  refine HY.out.mono ?_
  rintro e w2 ⟨A2, n2, c2, rfl, hn2, hown2, hb2⟩
  have HZ2 : Hid (w2.heap[w.heap.size]? = some recZ) := (hb2.block w.heap.size (by have := HSZ.out; omega)).trans HZ.out
  have HB2 : Hid (Below w.heap.size w w2) := HBA.out.trans (hb2.mono HBA.out.size)
  have hgl : gw < (w.alloc recZ).heap.size := Nat.lt_of_lt_of_le hgw HBA.out.size
  have hc2 := (hb2.cell (p := ⟨gw, 1, none⟩) hgl).trans HC.out
  have hm2 := (hb2.cell (p := ⟨b, o + k, none⟩) (by have := HBB.out; simp only []; omega)).trans HM.out
  have y := rc2 (show w2.heap[w.heap.size]? = some (.cells #[.int .u32 0, .slice none 0 0] 70 (0, 0)) from HZ2.out)
  have y0 := y.1
  have y1 := y.2
  have z0 := frozen_of_row w2 w.heap.size 0 _ _ HZ2.out
  have z1 := frozen_of_row w2 w.heap.size 1 _ _ HZ2.out
  clear y
  obtain rfl : n2 = k - 4 := by have := hn2.out; rw [this]; simp; have := HBL.out; omega
  obtain ⟨G, cG, hv, hG1, hG2⟩ := hown2.form (by omega)
  injection hv with e1 e2 e3
  subst e1 e3
  have hcc := own_cap hown2
  have hrw := Row.of_own hown2
  have hml : (p.take k).take ((p.take k).length - 4) = p.take (k - 4) := by
    rw [List.length_take, HBL.out, Nat.min_eq_left (by omega), List.take_take, Nat.min_eq_left (by omega)]
  rw [hml] at hrw
  have h4r : Row w2 w2.heap.size (some ⟨G, 0, none⟩) 4 (bv (p.take 4)) := by
    have := hrw.head (k := 4) (by omega)
    rwa [bv_take, List.take_take, Nat.min_eq_left (by omega)] at this
  have HN4 := Lib.hid (fun q cap => wnumber_any w2.heap.size cap _ _ (w2.drewN q) (h4r.drewN q))
  have h4c : (4 : Int) ≤ c2 := by omega
  have h4k : (4 : Int) ≤ ((k - 4 : Nat) : Int) := by omega
  have h8r : Row w2 w2.heap.size (some ⟨G, 4, none⟩) 4 (bv ((p.drop 4).take 4)) := by
    have := hrw.sub (k := 4) (m := 4) (A' := some ⟨G, 4, none⟩) (by omega) (fun b o e _ => by injection e with e; injection e with e1 e2; subst e1 e2; rfl)
    rwa [bv_drop, bv_take, List.drop_take, List.take_take, Nat.min_eq_left (by omega)] at this
  have hDr : Row w2 w2.heap.size (some ⟨G, 8, none⟩) (k - 4 - 8) (bv (plR p).2) := by
    have := hrw.sub (k := 8) (m := k - 4 - 8) (A' := some ⟨G, 8, none⟩) (by omega) (fun b o e _ => by injection e with e; injection e with e1 e2; subst e1 e2; rfl)
    rw [bv_drop, bv_take, List.take_of_length_le (by rw [List.length_drop, List.length_take]; have := HBL.out; omega)] at this
    unfold plR
    rwa [show p.length - 5 = k - 4 by have := HBL.out; omega]
  have HD := Lib.hid hDr
  have HPL : Hid (k - 4 - 8 = (plR p).2.length) := hDr.blen.symm
  have HN8 := Lib.hid (fun q cap => wnumber_any w2.heap.size cap _ _ (w2.drewN q) (h8r.drewN q))
  have HG := Lib.hid (And.intro hG1 hG2)
  have hnb := HNB.out
  have h8c : (8 : Int) ≤ c2 := by omega
  have h8k : (8 : Int) ≤ ((k - 4 : Nat) : Int) := by omega
  have hc8 : ¬ c2 = 8 := by omega
  generalize hK4 : k - 4 = K4 at *
  have HK4 := Lib.hid hK4
  generalize CrcM.number (p.take 4) = nm at *
  clear hb2 HY hrw h4r h8r hown2 hG1 hG2 HNB hDr hK4
  go_wp2_with fail
  go_quiet ((go_at_call 126; with_reducible exact Calls.quiet_of_same (wsame (HN4.out _ _))))
  go_wp2_with fail
  go_region_with (go_at_call 126; (with_reducible refine (HN8.out (nq + 1) _).mono ?_); rintro e w' ⟨rfl, rfl⟩)
  go_wp2_with fail
  have hrow := two_set (show (w2.drewN (nq + 1)).heap[w.heap.size]? = some _ from HZ2.out) (.int .u32 (CrcM.number ((p.drop 4).take 4) : Nat)) (.slice (some ⟨G, 8, none⟩) (K4 - 8) (c2 - 8))
  refine bodyPost_ret (results_ctw rfl _ _ w.heap.size _ _ (0, 0) _ rfl hrow Tryz.underlying70 rfl (by kernel_rfl)) rfl ?_
  refine ⟨G, 8, K4 - 8, c2 - 8, rfl, HPL, ?_, ((below_drewN HB2.out (nq + 1)).setCell (Nat.le_refl _) _).setCell (Nat.le_refl _) _⟩
  have hg1 := HG.out.1
  have hg2 := HG.out.2
  have hne : G ≠ w.heap.size := by have := HSZ.out; omega
  have hgr := (grown_set (w2.drewN (nq + 1)) w.heap.size 0 (.int .u32 (CrcM.number ((p.drop 4).take 4) : Nat))).trans (grown_set _ w.heap.size 1 (.slice (some ⟨G, 8, none⟩) (K4 - 8) (c2 - 8)))
  refine ⟨by have := HSZ.out; omega, by simpa using hg2, ?_⟩
  have hd := HD.out.drewN (nq + 1)
  exact (hd.apart (fun _ b o e => by injection e with e; injection e with e; omega) hgr (Nat.le_refl _)).more (by simp)
end Go.Proofs.YtoblapnnpjgpnaaGreatDoor
namespace Go.Proofs.YtoblapnnpjgpnaaGreatDoor
open Go.RowKit
theorem app_run2 {P : Program} (w : World) (base : Nat) (t ty e : TypeId) (i : TypeInfo) (z : Value) (bytes : Nat) (ht : P.underlying t = some (.slice e)) (hi : P.info? e = some i) (hz : i.zero = some z)
    (hsize : i.size = 2) (hby : i.bytes = bytes) (hzs : z.cells.size = 2)
    (v : Value) (n : Nat) (xs : List Value) (hown : w.ownsRow base e 2 v n xs)
    (g c : Nat) (x y : Value) (e' : TypeId) (hg : w.heap[g]? = some (.cells #[x, y] e' (0, 0))) (hx1 : x.oneCell' = true) (hy1 : y.oneCell' = true)
    (h63 : n + 1 ≤ maxLen) (hbytes : (n + 1) * bytes ≤ 140737488355328) (hbase : base ≤ w.heap.size) :
    ∃ v' w', (Builtin.append_ #[t, t] ty #[v, .slice (some ⟨g, 0, none⟩) 1 c]).run P w = .ok v' w' ∧ w'.ownsRow base e 2 v' (n + 1) (xs ++ [x, y]) ∧ w.grownBy w' v.ownBlock ∧
      (v'.ownBlock = v.ownBlock ∨ v'.ownBlock = some w.heap.size) := by
  have hc : ∀ j u, [x, y][j]? = some u → w.cell? ((⟨g, 0, none⟩ : Addr).add j) = some u := by
    intro j u hu
    rw [plain_add, Nat.zero_add, cell_of_row w g j _ e' (0, 0) hg]
    simpa using hu
  obtain ⟨v', w', hrun, h2, h3, _, h5⟩ := run_append_own_at (P := P) w base t ty e i z 2 bytes ht hi hz hsize hby hzs (by omega) v n xs hown ⟨g, 0, none⟩ 1 c [x, y] rfl hc (by intro u hu; simp at hu; rcases hu with rfl | rfl <;> assumption) h63 hbytes hbase
  exact ⟨v', w', hrun, h2, h3, h5⟩
theorem wp_app2 {P : Program} {w : World} {o : Oper} {a : Act} {K : Act → World → Prop} {Q : Exit → Act → World → Prop} (s q : Operand) (t : TypeId)
    (ho : o.op = .call { callee := .builtin .append, args := #[s, q], argTypes := #[t, t] })
    (base : Nat) (e : TypeId) (i : TypeInfo) (z : Value) (bytes : Nat) (ht : P.underlying t = some (.slice e)) (hi : P.info? e = some i) (hz : i.zero = some z)
    (hsize : i.size = 2) (hby : i.bytes = bytes) (hzs : z.cells.size = 2)
    (v : Value) (n : Nat) (xs : List Value) (hs : a.eval s = v) (hown : w.ownsRow base e 2 v n xs)
    (g c : Nat) (x y : Value) (e' : TypeId) (hx : a.eval q = .slice (some ⟨g, 0, none⟩) 1 c) (hg : w.heap[g]? = some (.cells #[x, y] e' (0, 0))) (hx1 : x.oneCell' = true) (hy1 : y.oneCell' = true)
    (h63 : n + 1 ≤ maxLen) (hbytes : (n + 1) * bytes ≤ 140737488355328) (hbase : base ≤ w.heap.size)
    (h : ∀ v' w', w'.ownsRow base e 2 v' (n + 1) (xs ++ [x, y]) → w.grownBy w' v.ownBlock → (v'.ownBlock = v.ownBlock ∨ v'.ownBlock = some w.heap.size) → K (a.put o.dst v') w') : o.wp P a w K Q := by
  obtain ⟨v', w', hrun, h2, h3, h4⟩ := app_run2 (P := P) w base t o.type e i z bytes ht hi hz hsize hby hzs v n xs hown g c x y e' hg hx1 hy1 h63 hbytes hbase
  unfold Oper.wp execOp
  simp only [ho, resolve, invoke, builtin, Sem.run_bind, Sem.run_pure, Result.andThen_ok, List.map_toArray, List.map_cons, List.map_nil, hs, hx, hrun]
  exact h v' w' h2 h3 h4
theorem own2_form {w : World} {base : Nat} {e : TypeId} {v : Value} {n k : Nat} {xs : List Value} (h : w.ownsRow base e k v (n + 1) xs) : ∃ A c, v = .slice A (n + 1) c := by
  rcases h.2 with ⟨_, h0⟩ | ⟨g, cap, cur, hv', _⟩
  · omega
  · exact ⟨_, _, hv'⟩
structure RRow where
  id : Nat
  A : Option Addr
  n : Nat
  c : Nat
  d : List UInt8
def RRow.cells (r : RRow) : List Value := [.int .u32 (r.id : Int), .slice r.A r.n r.c]
def RRow.pair (r : RRow) : Nat × List UInt8 := (r.id, r.d)
def rcells (es : List RRow) : List Value := es.flatMap RRow.cells
theorem rcells_append (es : List RRow) (r : RRow) : rcells (es ++ [r]) = rcells es ++ r.cells := by simp [rcells]
/-- a record's data, in a block of Q, not where the list v lies -/
def RcAt (Q : Nat → Prop) (W : World) (v : Value) (r : RRow) : Prop := ∃ g o, r.A = some ⟨g, o, none⟩ ∧ Q g ∧ g < W.heap.size ∧ v.ownBlock ≠ some g ∧ Row W W.heap.size r.A r.n (bv r.d)
/-- a list of records, in blocks of Q -/
def RecW (Q : Nat → Prop) (W : World) (v : Value) (n : Nat) (es : List RRow) : Prop := W.ownsRow 0 70 2 v n (rcells es) ∧ (∀ g, v.ownBlock = some g → Q g) ∧ es.length = n ∧ ∀ r ∈ es, RcAt Q W v r
theorem own2_keep {w w' : World} {base : Nat} {e : TypeId} {v : Value} {n k : Nat} {xs : List Value} (h : w.ownsRow base e k v n xs) (hk : ∀ g, v.ownBlock = some g → g < w.heap.size → w'.heap[g]? = w.heap[g]?) : w'.ownsRow base e k v n xs := by
  refine ⟨h.1, ?_⟩
  rcases h.2 with h0 | ⟨g, cap, cur, hv, hbg, hg, r⟩
  · exact .inl h0
  · exact .inr ⟨g, cap, cur, hv, hbg, by rw [hk g (by rw [hv]; rfl) (Array.getElem?_eq_some_iff.1 hg).1]; exact hg, r⟩
theorem row_same1 {w W : World} {g o n : Nat} {xs : List Value} (hr : Row w w.heap.size (some ⟨g, o, none⟩) n xs) (hb : W.heap[g]? = w.heap[g]?) (hs : w.heap.size ≤ W.heap.size) : Row W W.heap.size (some ⟨g, o, none⟩) n xs := by
  refine ⟨hr.1, fun hn => ?_⟩
  obtain ⟨b, o', e, hb', hc⟩ := hr.2 hn
  injection e with e
  injection e with e1 e2
  subst e1 e2
  refine ⟨g, o, rfl, Nat.lt_of_lt_of_le hb' hs, fun j u hu => ?_⟩
  rw [World.cell?_of_block (w := w) (w' := W) (a := ⟨g, o + j, none⟩) hb]
  exact hc j u hu
section
variable {Q Q' : Nat → Prop} {W W' : World} {v v' : Value} {n : Nat} {es : List RRow}
theorem RecW.keep (h : RecW Q W v n es) (hk : ∀ b, Q b → b < W.heap.size → W'.heap[b]? = W.heap[b]?) (hs : W.heap.size ≤ W'.heap.size) : RecW Q W' v n es := by
  refine ⟨own2_keep h.1 fun g hg hl => hk g (h.2.1 g hg) hl, h.2.1, h.2.2.1, fun r hr => ?_⟩
  obtain ⟨g, o, a1, a2, a3, a4, a5⟩ := h.2.2.2 r hr
  refine ⟨g, o, a1, a2, Nat.lt_of_lt_of_le a3 hs, a4, ?_⟩
  rw [a1] at a5 ⊢
  exact row_same1 a5 (hk g a2 a3) hs
theorem RecW.more (h : RecW Q W v n es) (hq : ∀ b, Q b → Q' b) : RecW Q' W v n es :=
  ⟨h.1, fun g hg => hq g (h.2.1 g hg), h.2.2.1, fun r hr => by
    obtain ⟨g, o, a1, a2, r⟩ := h.2.2.2 r hr
    exact ⟨g, o, a1, hq g a2, r⟩⟩
theorem RecW.nil (Q : Nat → Prop) (W : World) : RecW Q W (.slice none 0 0) 0 [] := ⟨World.ownsRow_nil _ _ _ _, (fun g h => by cases h), rfl, fun r hr => by cases hr⟩
/-- a record more -/
theorem RecW.next {r : RRow} (h : RecW Q W v n es) (hr : RcAt Q' W v r) (hown : W'.ownsRow 0 70 2 v' (n + 1) (rcells es ++ r.cells)) (hg : W.grownBy W' v.ownBlock) (hv : v'.ownBlock = v.ownBlock ∨ v'.ownBlock = some W.heap.size) (hq : ∀ b, Q b → Q' b) (hn : v'.ownBlock = some W.heap.size → Q' W.heap.size) : RecW Q' W' v' (n + 1) (es ++ [r]) := by
  have hnv : ∀ g, g < W.heap.size → v.ownBlock ≠ some g → v'.ownBlock ≠ some g := by
    intro g hg1 hg2 e
    rcases hv with h | h
    · exact hg2 (h.symm.trans e)
    · rw [h] at e; injection e with e; omega
  refine ⟨by rw [rcells_append]; exact hown, fun g hgv => ?_, by rw [List.length_append, h.2.2.1]; rfl, fun q hq2 => ?_⟩
  · rcases hv with e | e
    · exact hq g (h.2.1 g (e.symm.trans hgv))
    · have hn := hn e
      rw [e] at hgv; injection hgv with hgv; rw [← hgv]; exact hn
  · rcases List.mem_append.1 hq2 with hm | hm
    · obtain ⟨g, o, a1, a2, a3, a4, a5⟩ := h.2.2.2 q hm
      refine ⟨g, o, a1, hq g a2, Nat.lt_of_lt_of_le a3 hg.size, hnv g a3 a4, ?_⟩
      rw [a1] at a5 ⊢
      exact row_same1 a5 (hg.block g a3 (fun e => a4 e.symm)) hg.size
    · obtain rfl := List.mem_singleton.1 hm
      obtain ⟨g, o, a1, a2, a3, a4, a5⟩ := hr
      refine ⟨g, o, a1, a2, Nat.lt_of_lt_of_le a3 hg.size, hnv g a3 a4, ?_⟩
      rw [a1] at a5 ⊢
      exact row_same1 a5 (hg.block g a3 (fun e => a4 e.symm)) hg.size
end
def wcells (gf : Nat) (h : Wh) (v : Value) : Array Value := #[.pointer (some ⟨gf, 0, none⟩), .int .u32 (h.gen : Int), .int .i64 (h.size : Int), v, .int .i64 h.ready, .int .i64 (h.next : Int)]
/-- the wheel h, in block gw and others of P, over the flash in block gf -/
def WhAt (P : Nat → Prop) (gw gf : Nat) (h : Wh) (W : World) : Prop :=
  ∃ A n c es, W.heap[gw]? = some (.cells (wcells gf h (.slice A n c)) 122 (0, 0)) ∧ P gw ∧ ¬ P gf ∧ RecW (fun b => P b ∧ b ≠ gw) W (.slice A n c) n es ∧ es.map RRow.pair = h.L
section
variable {P P' : Nat → Prop} {gw gf : Nat} {h h' : Wh} {W W' : World}
theorem WhAt.lt (a : WhAt P gw gf h W) : gw < W.heap.size := by
  obtain ⟨A, n, c, es, hg, _⟩ := a
  exact (Array.getElem?_eq_some_iff.1 hg).1
theorem WhAt.keep (a : WhAt P gw gf h W) (hk : ∀ b, P b → b < W.heap.size → W'.heap[b]? = W.heap[b]?) (hs : W.heap.size ≤ W'.heap.size) : WhAt P gw gf h W' := by
  have hl := a.lt
  obtain ⟨A, n, c, es, hg, h1, h2, h3, h4⟩ := a
  exact ⟨A, n, c, es, (hk gw h1 hl).trans hg, h1, h2, h3.keep (fun b hb => hk b hb.1) hs, h4⟩
theorem WhAt.below (a : WhAt P gw gf h W) (hb : Below W.heap.size W W') : WhAt P gw gf h W' := a.keep (fun b _ hl => hb.block b hl) hb.size
theorem WhAt.more (a : WhAt P gw gf h W) (hp : ∀ b, P b → P' b) (hf : ¬ P' gf) : WhAt P' gw gf h W := by
  obtain ⟨A, n, c, es, hg, h1, h2, h3, h4⟩ := a
  exact ⟨A, n, c, es, hg, hp gw h1, hf, h3.more (fun b hb => ⟨hp b hb.1, hb.2⟩), h4⟩
theorem wc6 {v : Value} (hg : W.heap[gw]? = some (.cells (wcells gf h v) 122 (0, 0))) :
    W.cell? ⟨gw, 0, none⟩ = some (.pointer (some ⟨gf, 0, none⟩)) ∧ W.cell? ⟨gw, 1, none⟩ = some (.int .u32 (h.gen : Int)) ∧ W.cell? ⟨gw, 2, none⟩ = some (.int .i64 (h.size : Int)) ∧ W.cell? ⟨gw, 3, none⟩ = some v ∧ W.cell? ⟨gw, 4, none⟩ = some (.int .i64 h.ready) ∧ W.cell? ⟨gw, 5, none⟩ = some (.int .i64 (h.next : Int)) ∧
    W.frozen? ⟨gw, 3, none⟩ = false ∧ W.frozen? ⟨gw, 4, none⟩ = false ∧ W.frozen? ⟨gw, 5, none⟩ = false := by
  refine ⟨?_, ?_, ?_, ?_, ?_, ?_, frozen_of_row W gw _ _ _ hg, frozen_of_row W gw _ _ _ hg, frozen_of_row W gw _ _ _ hg⟩ <;> (rw [cell_of_row W gw _ _ _ (0, 0) hg]; rfl)
theorem recW_set {Q : Nat → Prop} {v : Value} {n k : Nat} {es : List RRow} (hr : RecW Q W v n es) (hq : ¬ Q gw) (u : Value) : RecW Q (W.setCell ⟨gw, k, none⟩ u) v n es :=
  hr.keep (fun b hb _ => heap_setCell_other W ⟨gw, k, none⟩ b u (fun e => hq (by rw [← show b = gw from e]; exact hb))) (by simp [World.setCell])
theorem WhAt.ready (a : WhAt P gw gf h W) (s : Int) : WhAt P gw gf { h with ready := s } (W.setCell ⟨gw, 4, none⟩ (.int .i64 s)) := by
  obtain ⟨A, n, c, es, hg, h1, h2, h3, h4⟩ := a
  exact ⟨A, n, c, es, heap_setCell_same W gw 4 _ _ _ hg, h1, h2, recW_set h3 (fun hb => hb.2 rfl) _, h4⟩
theorem WhAt.next (a : WhAt P gw gf h W) (s : Nat) (x : Int) (hx : x = (s : Int)) : WhAt P gw gf { h with next := s } (W.setCell ⟨gw, 5, none⟩ (.int .i64 x)) := by
  subst hx
  obtain ⟨A, n, c, es, hg, h1, h2, h3, h4⟩ := a
  exact ⟨A, n, c, es, heap_setCell_same W gw 5 _ _ _ hg, h1, h2, recW_set h3 (fun hb => hb.2 rfl) _, h4⟩
/-- a record more, W0 where the list grew, W behind it -/
theorem WhAt.app {W0 : World} {v v' : Value} {n : Nat} {es : List RRow} {r : RRow} (hg : W0.heap[gw]? = some (.cells (wcells gf h v) 122 (0, 0))) (h1 : P gw) (h2 : ¬ P' gf) (h3 : RecW (fun b => P b ∧ b ≠ gw) W0 v n es) (h4 : es.map RRow.pair = h.L)
    (hr : RcAt (fun b => P' b ∧ b ≠ gw) W0 v r) (hown : W.ownsRow 0 70 2 v' (n + 1) (rcells es ++ r.cells)) (hgr : W0.grownBy W v.ownBlock) (hv : v'.ownBlock = v.ownBlock ∨ v'.ownBlock = some W0.heap.size) (hq : ∀ b, P b → P' b) (hn : v'.ownBlock = some W0.heap.size → P' W0.heap.size) :
    W.heap[gw]? = some (.cells (wcells gf h v) 122 (0, 0)) ∧ WhAt P' gw gf { h with L := h.L ++ [r.pair] } (W.setCell ⟨gw, 3, none⟩ v') := by
  have hl : gw < W0.heap.size := (Array.getElem?_eq_some_iff.1 hg).1
  have hgw : W.heap[gw]? = some (.cells (wcells gf h v) 122 (0, 0)) := (hgr.block gw hl (fun e => (h3.2.1 gw e.symm).2 rfl)).trans hg
  refine ⟨hgw, ?_⟩
  have hrw := h3.next (Q' := fun b => P' b ∧ b ≠ gw) hr hown hgr hv (fun b hb => ⟨hq b hb.1, hb.2⟩) (fun e => ⟨hn e, by omega⟩)
  obtain ⟨A, c, rfl⟩ : ∃ A c, v' = .slice A (n + 1) c := by
    rcases hown.2 with ⟨_, h0⟩ | ⟨g, cap, cur, hv', _⟩
    · omega
    · exact ⟨_, _, hv'⟩
  exact ⟨A, n + 1, c, es ++ [r], heap_setCell_same W gw 3 _ _ _ hgw, hq gw h1, h2, recW_set hrw (fun hb => hb.2 rfl) _, by rw [List.map_append, h4]; rfl⟩
end
/-- nothing but blocks of F was written -/
structure Frm (w w' : World) (F : Nat → Prop) : Prop where
  os : w'.os = w.os
  tape : w'.tape = w.tape
  output : w'.output = w.output
  size : w.heap.size ≤ w'.heap.size
  block : ∀ b, b < w.heap.size → ¬ F b → w'.heap[b]? = w.heap[b]?
section
variable {w w' w'' : World} {F F' : Nat → Prop}
theorem Frm.refl (w : World) (F : Nat → Prop) : Frm w w F := ⟨rfl, rfl, rfl, Nat.le_refl _, fun _ _ _ => rfl⟩
theorem Frm.of_below (hb : Below w.heap.size w w') : Frm w w' F := ⟨hb.os, hb.tape, hb.output, hb.size, fun b h _ => hb.block b h⟩
theorem Frm.of_grown {r : Option Nat} (hg : w.grownBy w' r) (hF : ∀ g, r = some g → g < w.heap.size → F g) : Frm w w' F :=
  ⟨hg.os, hg.tape, hg.output, hg.size, fun b h hn => hg.block b h (fun e => hn (hF b e.symm h))⟩
theorem Frm.trans (h1 : Frm w w' F) (h2 : Frm w' w'' F') (hF : ∀ b, b < w.heap.size → F' b → F b) : Frm w w'' F :=
  ⟨h2.os.trans h1.os, h2.tape.trans h1.tape, h2.output.trans h1.output, Nat.le_trans h1.size h2.size, fun b hb hn => (h2.block b (Nat.lt_of_lt_of_le hb h1.size) (fun h => hn (hF b hb h))).trans (h1.block b hb hn)⟩
theorem Frm.more (h : Frm w w' F) (hF : ∀ b, b < w.heap.size → F b → F' b) : Frm w w' F' := ⟨h.os, h.tape, h.output, h.size, fun b hb hn => h.block b hb (fun h => hn (hF b hb h))⟩
theorem Frm.below {B : Nat} (h : Frm w w' F) (hF : ∀ b, F b → B ≤ b) (hB : B ≤ w.heap.size) : Below B w w' :=
  ⟨h.os, h.tape, h.output, h.size, fun b hb => h.block b (by omega) (fun hf => by have := hF b hf; omega)⟩
theorem Row.frm {B n : Nat} {A : Option Addr} {xs : List Value} (h : Row w B A n xs) (hA : ∀ b o, A = some ⟨b, o, none⟩ → 0 < n → ¬ F b) (hf : Frm w w' F) (hB : B ≤ w.heap.size) : Row w' B A n xs :=
  ⟨h.1, fun hn => by
    obtain ⟨b, o, e, hb, hc⟩ := h.2 hn
    refine ⟨b, o, e, hb, fun j u hu => ?_⟩
    rw [World.cell?_of_block (w := w) (w' := w') (a := ⟨b, o + j, none⟩) (hf.block b (by omega) (hA b o e hn))]
    exact hc j u hu⟩
end
theorem RecW.below {Q : Nat → Prop} {W W' : World} {v : Value} {n : Nat} {es : List RRow} (h : RecW Q W v n es) (hb : Below W.heap.size W W') : RecW Q W' v n es := h.keep (fun b _ hl => hb.block b hl) hb.size
/-- P, and what was made since w -/
def Pn (P : Nat → Prop) (w w' : World) : Nat → Prop := fun x => P x ∨ (w.heap.size ≤ x ∧ x < w'.heap.size)
theorem rec_yes' (gw B n cap gen : Nat) (A : Option Addr) (p : List UInt8) (w : World) (hl : Row w B A n (bv p)) (hk1 : 14 ≤ n) (hk2 : n ≤ 1000) (hcap : n ≤ cap) (hcm : cap ≤ 9223372036854775807) (hB : B ≤ w.heap.size) (hgw : gw < w.heap.size)
    (hc : w.cell? ⟨gw, 1, none⟩ = some (.int .u32 (gen : Int))) (h : plB gen p = true) :
    Calls Tryz.prog 91 #[.pointer (some ⟨gw, 0, none⟩), .slice A n cap] w (RecYes p w) := by
  obtain ⟨k, rfl⟩ : ∃ k, n = k + 1 := ⟨n - 1, by omega⟩
  exact rec_yes gw B k cap gen A p w hl (by omega) (by omega) hcap hcm hB hgw hc h
theorem rec_no' (gw B n cap gen : Nat) (A : Option Addr) (p : List UInt8) (w : World) (hl : Row w B A n (bv p)) (hk1 : 14 ≤ n) (hk2 : n ≤ 1000) (hcap : n ≤ cap) (hcm : cap ≤ 9223372036854775807) (hB : B ≤ w.heap.size) (hgw : gw < w.heap.size)
    (hc : w.cell? ⟨gw, 1, none⟩ = some (.int .u32 (gen : Int))) (h : plB gen p = false) :
    Calls Tryz.prog 91 #[.pointer (some ⟨gw, 0, none⟩), .slice A n cap] w (RecNo w) := by
  obtain ⟨k, rfl⟩ : ∃ k, n = k + 1 := ⟨n - 1, by omega⟩
  exact rec_no gw B k cap gen A p w hl (by omega) (by omega) hcap hcm hB hgw hc h
theorem plAt_row {w : World} {B wd k : Nat} {g o n : Nat} {b : List UInt8} (h : Row w B (some ⟨g, o, none⟩) n (bv b)) (hk : (k + 1) * wd ≤ n) : Row w B (some ⟨g, o + k * wd, none⟩) wd (bv (plAt b wd k)) := by
  have := h.sub (k := k * wd) (m := wd) (A' := some ⟨g, o + k * wd, none⟩) (by rw [Nat.succ_mul] at hk; omega) (fun b' o' e _ => by injection e with e; injection e with e1 e2; subst e1 e2; rfl)
  rwa [bv_drop, bv_take] at this
theorem recsUp_le (gen wide : Nat) (b : List UInt8) : ∀ k, (recsUp gen wide b k).length ≤ k
  | 0 => Nat.le_refl _
  | k + 1 => by
    have := recsUp_le gen wide b k
    show (recsUp gen wide b k ++ _).length ≤ _
    rw [List.length_append]
    split
    · simp; omega
    · simp; omega
/-- a struct lies in a box -/
theorem wyields_row {P : Program} {ops : Array Oper} {S : World → Prop} {op : Oper} {a : Act} (hw : Region.wanted op (yielded ops a.tmps) = true) (ty : TypeId) (x : Operand) (ho : op.op = .load ty x)
    (g : Nat) (hx : a.eval x = .pointer (some ⟨g, 0, none⟩)) (t : TypeId) (cs : Array Value) (fr : Nat × Nat) (d : TypeDesc) (hS : ∀ w, S w → w.heap[g]? = some (.cells cs t fr))
    (hu : P.underlying ty = some d) (hd : (match d with | .struct _ | .array _ _ => true | _ => false) = true) (hi : (P.info? ty).map (·.size) = some cs.size) : YieldsIf P ops S op (.agg cs) a :=
  .inl ⟨hw, fun w hw' => by
    unfold execOp
    simp only [ho, hx, Instr.loadAt, Instr.sureAddr, Sem.run_bind, Sem.run_pure, Result.andThen_ok, run_loadVar_row w g t ty cs fr d (hS w hw') hu hd hi]⟩
/-- behind k places of sector s, which counts -/
def Wh.upto (h : Wh) (s : Nat) (b : List UInt8) (k : Nat) : Wh := { h with L := h.L ++ recsUp h.gen h.wide b k, ready := s, next := nextUp h.wide (s * h.per) h.next b k }
theorem Wh.upto_zero (h : Wh) (s : Nat) (b : List UInt8) : h.upto s b 0 = { h with ready := s } := by
  unfold Wh.upto recsUp nextUp
  rw [List.append_nil]
/-- what holds within a statement that adds a record to the list v, r in block gr -/
structure SR (wb : World) (gw gr : Nat) (v : Value) (cs : Array Value) (W : World) : Prop where
  fr : Frm wb W (fun b => b = gw ∨ v.ownBlock = some b)
  box : W.heap[gr]? = some (.cells cs 70 (0, 0))
section
variable {wb W W' : World} {gw gr : Nat} {v : Value} {cs : Array Value}
theorem SR.lt (h : SR wb gw gr v cs W) : gr < W.heap.size := (Array.getElem?_eq_some_iff.1 h.box).1
theorem SR.below (h : SR wb gw gr v cs W) (hb : Below W.heap.size W W') : SR wb gw gr v cs W' := ⟨h.fr.trans (Frm.of_below (F := fun _ => False) hb) (fun _ _ h => h.elim), (hb.block gr h.lt).trans h.box⟩
theorem SR.app (h : SR wb gw gr v cs W) (hg : W.grownBy W' v.ownBlock) (hv : v.ownBlock ≠ some gr) : SR wb gw gr v cs W' :=
  ⟨h.fr.trans (Frm.of_grown (F := fun b => v.ownBlock = some b) hg (fun _ h _ => h)) (fun _ _ h => .inr h), (hg.block gr h.lt (fun e => hv e.symm)).trans h.box⟩
theorem SR.set (h : SR wb gw gr v cs W) (hn : gr ≠ gw) (k : Nat) (u : Value) : SR wb gw gr v cs (W.setCell ⟨gw, k, none⟩ u) :=
  ⟨h.fr.trans (Frm.of_grown (F := fun b => b = gw) (grown_set W gw k u) (fun g h _ => by injection h with h; exact h.symm)) (fun _ _ h => .inl h), (heap_setCell_other W ⟨gw, k, none⟩ gr u hn).trans h.box⟩
end
def recV (rid rg ro rm rc : Nat) : Array Value := #[.int .u32 (rid : Int), .slice (some ⟨rg, ro, none⟩) rm rc]
/-- the record's data, apart from the list v -/
def RNew (w : World) (gw : Nat) (v : Value) (rg ro rm : Nat) (d : List UInt8) (W : World) : Prop := w.heap.size ≤ rg ∧ rg < W.heap.size ∧ rg ≠ gw ∧ v.ownBlock ≠ some rg ∧ Row W W.heap.size (some ⟨rg, ro, none⟩) rm (bv d)
theorem RNew.sr {w wb W : World} {gw gr rg ro rm : Nat} {v : Value} {cs : Array Value} {d : List UInt8} (h : RNew w gw v rg ro rm d wb) (hs : SR wb gw gr v cs W) : RNew w gw v rg ro rm d W := by
  obtain ⟨h1, h2, h3, h4, h5⟩ := h
  refine ⟨h1, Nat.lt_of_lt_of_le h2 hs.fr.size, h3, h4, (h5.frm (fun b o e _ => ?_) hs.fr (Nat.le_refl _)).more hs.fr.size⟩
  injection e with e
  injection e with e
  subst e
  rintro (h | h)
  · exact h3 h
  · exact h4 h
theorem wh_grow {P : Nat → Prop} {gw gf n rid rg ro rm rc : Nat} {h : Wh} {w wr W w4 : World} {v v4 : Value} {es : List RRow} {d : List UInt8}
    (hgw : W.heap[gw]? = some (.cells (wcells gf h v) 122 (0, 0))) (hP : Pn P w wr gw) (hPf : ¬ P gf) (hgf : gf < w.heap.size) (hwr : wr.heap.size ≤ W.heap.size) (hw : w.heap.size ≤ W.heap.size)
    (hrec : RecW (fun b => Pn P w wr b ∧ b ≠ gw) W v n es) (hes : es.map RRow.pair = h.L) (hr : RNew w gw v rg ro rm d W)
    (hown : w4.ownsRow 0 70 2 v4 (n + 1) (rcells es ++ [.int .u32 (rid : Int), .slice (some ⟨rg, ro, none⟩) rm rc])) (hg : W.grownBy w4 v.ownBlock) (hat : v4.ownBlock = v.ownBlock ∨ v4.ownBlock = some W.heap.size) :
    w4.heap[gw]? = some (.cells (wcells gf h v) 122 (0, 0)) ∧ WhAt (Pn P w w4) gw gf { h with L := h.L ++ [(rid, d)] } (w4.setCell ⟨gw, 3, none⟩ v4) := by
  have hs := hg.size
  refine WhAt.app (P := Pn P w wr) (r := ⟨rid, some ⟨rg, ro, none⟩, rm, rc, d⟩) hgw hP ?_ hrec hes ⟨rg, ro, rfl, ⟨.inr ⟨hr.1, Nat.lt_of_lt_of_le hr.2.1 hs⟩, hr.2.2.1⟩, hr.2.1, hr.2.2.2.1, hr.2.2.2.2⟩ hown hg hat ?_ ?_
  · rintro (h | h)
    · exact hPf h
    · omega
  · rintro b (h | h)
    · exact .inl h
    · exact .inr ⟨h.1, by omega⟩
  · intro e
    refine .inr ⟨hw, ?_⟩
    rcases hown.2 with ⟨hv, h0⟩ | ⟨g, cap, cur, hv, _, hgc, _⟩
    · omega
    · rw [hv] at e
      injection e with e
      rw [← e]
      exact (Array.getElem?_eq_some_iff.1 hgc).1
theorem Tryz.info70 : (Tryz.prog.info? 70).map (fun i => (i.zero, i.size, i.bytes)) = some (some (.agg #[.int .u32 0, .slice none 0 0]), 2, 32) := by kernel_rfl
end Go.Proofs.YtoblapnnpjgpnaaGreatDoor
