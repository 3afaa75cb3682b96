/- The reference's decoder: Take, Needs: by contracts. -/
import Derived.Test.YtidcnoejihjgjaaGreatDoorZZQF
import Derived.Test.YtidcnoejihjgjaaGreatDoorZZBQF
import Derived.Test.YtidcnoejihjgjaaGreatDoorRMxDQF
import Derived.Test.YtidcnoejihjgjaaGreatDoorDcNQF
namespace Go.Proofs.YtidcnoejihjgjaaGreatDoor.Car
open Go.RowKit
open VecM RdM Vc Sp Pc El Cd Dc
def rdC (s K P Z gm t : Nat) : Array Value := #[.int .u32 (s : Int), .int .i64 (K : Int), .int .i64 (P : Int), .int .i64 (Z : Int), .pointer (some ⟨gm, 0, none⟩), .int .i64 (t : Int)]
def rdO (gd gm s K P Z t : Nat) (M : Mx) : Dc.Obj := fun W F => W.heap[gd]? = some (.cells (rdC s K P Z gm t) 84 (0, 0)) ∧ F gd ∧ ∃ Fm, RMat W Fm gm (K + P) Z (rowsTo M (K + P)) ∧ (∀ b, Fm b → F b) ∧ ¬ Fm gd
theorem keeps_rd (gd gm s K P Z t : Nat) (M : Mx) : Dc.Keeps (rdO gd gm s K P Z t M) := fun W W' F h hk hs => by
  obtain ⟨h1, h2, Fm, h3, h4, h5⟩ := h
  exact ⟨(hk gd h2 (Array.getElem?_eq_some_iff.1 h1).1).trans h1, h2, Fm, h3.keep (fun b hb hl => hk b (h4 b hb) hl) hs, h4, h5⟩
theorem rdO.more {gd gm s K P Z t : Nat} {M : Mx} {W : World} {F F' : Nat → Prop} (h : rdO gd gm s K P Z t M W F) (hf : ∀ b, F b → F' b) : rdO gd gm s K P Z t M W F' := by
  obtain ⟨h1, h2, Fm, h3, h4, h5⟩ := h
  exact ⟨h1, hf _ h2, Fm, h3, fun b hb => hf b (h4 b hb), h5⟩
def RdS (gd s K P Z gm : Nat) (W : World) : Prop := W.cell? ⟨gd, 0, none⟩ = some (.int .u32 (s : Int)) ∧ W.cell? ⟨gd, 1, none⟩ = some (.int .i64 (K : Int)) ∧ W.cell? ⟨gd, 2, none⟩ = some (.int .i64 (P : Int)) ∧ W.cell? ⟨gd, 3, none⟩ = some (.int .i64 (Z : Int)) ∧ W.cell? ⟨gd, 4, none⟩ = some (.pointer (some ⟨gm, 0, none⟩))
theorem rdS_of {gd gm s K P Z t : Nat} {M : Mx} {W : World} {F : Nat → Prop} (h : rdO gd gm s K P Z t M W F) : RdS gd s K P Z gm W := by
  have hx := h.1
  refine ⟨?_, ?_, ?_, ?_, ?_⟩ <;> (rw [cell_of_row W gd _ _ _ (0, 0) hx]; rfl)
theorem rdS_drew {gd gm s K P Z : Nat} {W : World} (h : RdS gd s K P Z gm W) : RdS gd s K P Z gm W.drew := h
theorem rd_inc {gd gm s K P Z t : Nat} {M : Mx} {W : World} {F : Nat → Prop} (h : rdO gd gm s K P Z t M W F) : rdO gd gm s K P Z (t + 1) M (W.setCell ⟨gd, 5, none⟩ (.int .i64 ((t + 1 : Nat) : Int))) F := by
  obtain ⟨h1, h2, Fm, h3, h4, h5⟩ := h
  refine ⟨heap_setCell_same W gd 5 _ _ _ h1, h2, Fm, h3.keep (fun b hb _ => heap_setCell_other W ⟨gd, 5, none⟩ b _ (fun e => h5 (by rw [← show b = gd from e]; exact hb))) (by simp), h4, h5⟩
theorem radd_rd {gd gm s kk P Z t X c cd : Nat} {M : Mx} {AV AD : Option Addr} {l : List UInt8} {w : World} {F : Nat → Prop} (h : rdO gd gm s kk P Z t M w F) (hi : Inv (kk + P) Z M) (hv : Row w w.heap.size AV (kk + P) (vb X (kk + P))) (hd : Row w w.heap.size AD Z (bv l)) (hX : X < 2 ^ (kk + P)) :
    Calls Tryz.prog 45 #[.pointer (some ⟨gm, 0, none⟩), .slice AV (kk + P) c, .slice AD Z cd] w fun e w' => e = .returned (.bool (addMx (kk + P) M X l).2) ∧ Hid (rdO gd gm s kk P Z t (addMx (kk + P) M X l).1 w' (fun b => F b ∨ (w.heap.size ≤ b ∧ b < w'.heap.size))) ∧ Hid (Fr w w' F) := by
  obtain ⟨h1, h2, Fm, h3, h4, h5⟩ := h
  have hlt := (Array.getElem?_eq_some_iff.1 h1).1
  refine (raddI h3 hi hv hd hX).mono ?_
  rintro e w' ⟨rfl, hm, hf⟩
  refine ⟨rfl, Lib.hid ⟨(hf.out.block gd hlt h5).trans h1, .inl h2, _, hm.out, fun b hb => hb.imp (h4 b) (fun h => h), ?_⟩, Lib.hid (hf.out.more fun b _ hb => h4 b hb)⟩
  rintro (hb | hb)
  · exact h5 hb
  · omega
def RTakeOk (gd gm s K P Z t : Nat) (F : Nat → Prop) (R : Mx × Bool) (w : World) (e : Ending) (w' : World) : Prop :=
  e = .returned (.bool R.2) ∧ Hid (rdO gd gm s K P Z (t + if R.2 then 1 else 0) R.1 w' (fun b => F b ∨ (w.heap.size ≤ b ∧ b < w'.heap.size))) ∧ Hid (Fr w w' F)
set_option maxRecDepth 100000 in
set_option maxHeartbeats 3200000 in
theorem rtake_any {gd gm s kk P Z t id cd : Nat} {M : Mx} {AD : Option Addr} {l : List UInt8} {w : World} {F : Nat → Prop} (h : rdO gd gm s kk P Z t M w F) (hi : Inv (kk + P) Z M) (hs : s < 4294967296) (hid : id < 4294967296) (hK : 1 ≤ kk ∧ kk ≤ 64) (hP : P ≤ 16) (hZ : 1 ≤ Z ∧ Z ≤ 16) (hd : Row w w.heap.size AD Z (bv l)) (htb : t ≤ 1000000) :
    Calls Tryz.prog 15 #[.pointer (some ⟨gd, 0, none⟩), .int .u32 (id : Int), .slice AD Z cd] w (RTakeOk gd gm s kk P Z t F (addMx (kk + P) M (spX s kk P id) l) w) := by
  have HD := Lib.hid h
  have HI := Lib.hid hi
  have HS := Lib.hid hs
  have HID := Lib.hid hid
  have HK := Lib.hid hK
  have HP := Lib.hid hP
  have HZ := Lib.hid hZ
  have HDA := Lib.hid hd
  have HFG := Lib.hid h.2.1
  have hti : (t : Int) ≤ 1000000 := by omega
  have hti0 : 0 ≤ (t : Int) := by omega
  have HCS : Hid (∀ W, RdS gd s kk P Z gm W → W.cell? ⟨gd, 0, none⟩ = some (.int .u32 (s : Int)) ∧ W.cell? ⟨gd, 1, none⟩ = some (.int .i64 (kk : Int)) ∧ W.cell? ⟨gd, 2, none⟩ = some (.int .i64 (P : Int)) ∧ W.cell? ⟨gd, 3, none⟩ = some (.int .i64 (Z : Int)) ∧ W.cell? ⟨gd, 4, none⟩ = some (.pointer (some ⟨gm, 0, none⟩))) := Lib.hid (fun _ h => h)
  clear h hi hs hid hK hP hZ hd htb
  unfold RTakeOk
  obtain ⟨M2, hM2⟩ : ∃ X, (addMx (kk + P) M (spX s kk P id) l).1 = X := ⟨_, rfl⟩
  obtain ⟨bb, hbb⟩ : ∃ X, (addMx (kk + P) M (spX s kk P id) l).2 = X := ⟨_, rfl⟩
  have HAM := Lib.hid hM2
  have HAB := Lib.hid hbb
  rw [hM2, hbb]
  clear hM2 hbb
  go_enter Tryz.func15, Tryz.ntmps15
  go_upto_region 1 with fail
  have DW : Hid (rdO gd gm s kk P Z t M w.drew F) := Lib.hid (keeps_rd _ _ _ _ _ _ _ _ w w.drew F HD.out (fun _ _ _ => rfl) (Nat.le_refl _))
  have BW : Hid (Below w.heap.size w w.drew) := Lib.hid (Below.refl _ _).drew
  refine wp_region_noPanic ?_
  refine wp_region_held_drew (S := (fun W => RdS gd s kk P Z gm W)) (by kernel_rfl) (rdS_drew (rdS_of HD.out)) (fun hH0 => ?_)
  have hH0 : RdS gd s kk P Z gm w.drew := hH0
  generalize w.drew = wd4000 at *
  refine wpAnyH_take (i := 0) (oi := _) (v := ?tkv4001) rfl (by kernel_rfl) (by kernel_rfl) (by kernel_rfl) (fun _ _ _ h => h) (Or.inl ⟨by rfl, ?tky4001⟩) hH0 ?tkr4001
  case tky4001 => (intro w' hSw; clear hSw; go_simp; try with_reducible rfl)
  try simp only [Act.put, List.setIfInBounds_toArray, List.set_cons_zero, List.set_cons_succ]
  refine wpAnyH_take (i := 1) (oi := _) (v := ?tkv4002) rfl (by kernel_rfl) (by kernel_rfl) (by kernel_rfl) (fun _ _ _ h => h) (Or.inl ⟨by rfl, ?tky4002⟩) hH0 ?tkr4002
  case tky4002 => (intro w' hSw; clear hSw; go_simp; try with_reducible rfl)
  try simp only [Act.put, List.setIfInBounds_toArray, List.set_cons_zero, List.set_cons_succ]
  refine wpAnyH_take (i := 2) (oi := _) (v := ?tkv4003) rfl (by kernel_rfl) (by kernel_rfl) (by kernel_rfl) (fun _ _ _ h => h) (Or.inl ⟨by rfl, ?tky4003⟩) hH0 ?tkr4003
  case tky4003 => (intro w' hSw; clear hSw; go_simp; try with_reducible rfl)
  try simp only [Act.put, List.setIfInBounds_toArray, List.set_cons_zero, List.set_cons_succ]
  refine wpAnyH_take (i := 3) (oi := _) (v := ?tkv4004) rfl (by kernel_rfl) (by kernel_rfl) (by kernel_rfl) (fun _ _ _ h => h) (Or.inl ⟨by rfl, ?tky4004⟩) hH0 ?tkr4004
  case tky4004 => (intro w' hSw; have z0 := HCS.out _ hSw; clear hSw; go_simp; try with_reducible rfl)
  try simp only [Act.put, List.setIfInBounds_toArray, List.set_cons_zero, List.set_cons_succ]
  refine wpAnyH_take (i := 4) (oi := _) (v := ?tkv4005) rfl (by kernel_rfl) (by kernel_rfl) (by kernel_rfl) (fun _ _ _ h => h) (Or.inl ⟨by rfl, ?tky4005⟩) hH0 ?tkr4005
  case tky4005 => (intro w' hSw; clear hSw; go_simp; try with_reducible rfl)
  try simp only [Act.put, List.setIfInBounds_toArray, List.set_cons_zero, List.set_cons_succ]
  refine wpAnyH_take (i := 5) (oi := _) (v := ?tkv4006) rfl (by kernel_rfl) (by kernel_rfl) (by kernel_rfl) (fun _ _ _ h => h) (Or.inl ⟨by rfl, ?tky4006⟩) hH0 ?tkr4006
  case tky4006 => (intro w' hSw; clear hSw; go_simp; try with_reducible rfl)
  try simp only [Act.put, List.setIfInBounds_toArray, List.set_cons_zero, List.set_cons_succ]
  refine wpAnyH_take (i := 6) (oi := _) (v := ?tkv4007) rfl (by kernel_rfl) (by kernel_rfl) (by kernel_rfl) (fun _ _ _ h => h) (Or.inl ⟨by rfl, ?tky4007⟩) hH0 ?tkr4007
  case tky4007 => (intro w' hSw; clear hSw; go_simp; try with_reducible rfl)
  try simp only [Act.put, List.setIfInBounds_toArray, List.set_cons_zero, List.set_cons_succ]
  refine wpAnyH_take (i := 7) (oi := _) (v := ?tkv4008) rfl (by kernel_rfl) (by kernel_rfl) (by kernel_rfl) (fun _ _ _ h => h) (Or.inl ⟨by rfl, ?tky4008⟩) hH0 ?tkr4008
  case tky4008 => (intro w' hSw; have z0 := HCS.out _ hSw; clear hSw; go_simp; try with_reducible rfl)
  try simp only [Act.put, List.setIfInBounds_toArray, List.set_cons_zero, List.set_cons_succ]
  refine wpAnyH_take (i := 8) (oi := _) (v := ?tkv4009) rfl (by kernel_rfl) (by kernel_rfl) (by kernel_rfl) (fun _ _ _ h => h) (Or.inl ⟨by rfl, ?tky4009⟩) hH0 ?tkr4009
  case tky4009 => (intro w' hSw; clear hSw; go_simp; try with_reducible rfl)
  try simp only [Act.put, List.setIfInBounds_toArray, List.set_cons_zero, List.set_cons_succ]
  refine wpAnyH_take (i := 10) (oi := _) (v := ?tkv4010) rfl (by kernel_rfl) (by kernel_rfl) (by kernel_rfl) (fun _ _ _ h => h) (Or.inl ⟨by rfl, ?tky4010⟩) hH0 ?tkr4010
  case tky4010 => (intro w' hSw; clear hSw; go_simp; try with_reducible rfl)
  try simp only [Act.put, List.setIfInBounds_toArray, List.set_cons_zero, List.set_cons_succ]
  refine wpAnyH_ready (rs := [9]) (by kernel_rfl) (by simp) ?_
  refine AllReadyH.cons (o := _) rfl (fun K hK => ?_) AllReadyH.nil
  go_simp
  have hrr4011 := rrow_any s id kk P Z wd4000 HS.out HID.out HK.out HP.out HZ.out
  unfold parV at hrr4011
  refine hrr4011.mono ?_
  clear hrr4011
  rintro e' wn4011 ⟨g4011, rfl, ho4011, hb4011⟩
  have D4011 : Hid (rdO gd gm s kk P Z t M wn4011 F) := Lib.hid (keeps_rd _ _ _ _ _ _ _ _ _ wn4011 F DW.out (fun b _ hl => hb4011.out.block b hl) hb4011.out.size)
  have B4011 : Hid (Below w.heap.size w wn4011) := Lib.hid (BW.out.trans (hb4011.out.mono BW.out.size))
  have O4011 := Lib.hid (Row.of_own ho4011.out)
  clear ho4011 hb4011
  go_simp
  have hS4011 : RdS gd s kk P Z gm wn4011 := rdS_of D4011.out
  refine hK.out _ _ hS4011 (fun hH4011 => ?_)
  have hH4011 : RdS gd s kk P Z gm wn4011 := hH4011
  clear hK K hS4011
  try simp only [Act.put, List.setIfInBounds_toArray, List.set_cons_zero, List.set_cons_succ]
  refine wpAnyH_ready (rs := [11]) (by kernel_rfl) (by simp) ?_
  refine AllReadyH.cons (o := _) rfl (fun K hK => ?_) AllReadyH.nil
  go_simp
  refine (radd_rd D4011.out HI.out O4011.out ((HDA.out.below B4011.out).more B4011.out.size) spX_lt).mono ?_
  rintro e' wn4012 ⟨rfl, hd4012, hf4012⟩
  rw [HAM.out] at hd4012
  have D4012 : Hid (rdO gd gm s kk P Z t M2 wn4012 (fun b => F b ∨ (wn4011.heap.size ≤ b ∧ b < wn4012.heap.size))) := Lib.hid hd4012.out
  have FR4012 : Hid (Fr w wn4012 F) := Lib.hid ((Fr.of_below B4011.out).trans hf4012.out (fun _ _ h => h))
  clear hd4012 hf4012
  rw [HAB.out]
  go_simp
  have hS4012 : RdS gd s kk P Z gm wn4012 := rdS_of D4012.out
  refine hK.out _ _ hS4012 (fun hH4012 => ?_)
  have hH4012 : RdS gd s kk P Z gm wn4012 := hH4012
  clear hK K hS4012
  try simp only [Act.put, List.setIfInBounds_toArray, List.set_cons_zero, List.set_cons_succ]
  refine wpAnyH_take (i := 12) (oi := _) (v := ?tkv4013) rfl (by kernel_rfl) (by kernel_rfl) (by kernel_rfl) (fun _ _ _ h => h) (Or.inl ⟨by rfl, ?tky4013⟩) hH4012 ?tkr4013
  case tky4013 => (intro w' hSw; clear hSw; go_simp; try with_reducible rfl)
  try simp only [Act.put, List.setIfInBounds_toArray, List.set_cons_zero, List.set_cons_succ]
  refine wpAnyH_done (by kernel_rfl) ?_ _
  refine NoPanic.normal ?_
  cases bb with
  | false =>
    have DE : Hid (rdO gd gm s kk P Z t M2 wn4012 (fun b => F b ∨ (w.heap.size ≤ b ∧ b < wn4012.heap.size))) := Lib.hid (D4012.out.more fun b hb => hb.imp (fun h => h) fun h => ⟨Nat.le_trans B4011.out.size h.1, h.2⟩)
    go_wp2_with fail
    go_ret
    exact ⟨rfl, DE, FR4012⟩
  | true =>
    obtain ⟨t1, ht1⟩ : ∃ q, t + 1 = q := ⟨_, rfl⟩
    have HT1 := Lib.hid ht1
    have hti1 : (t : Int) + 1 = (t1 : Int) := by omega
    have DE : Hid (rdO gd gm s kk P Z t1 M2 (wn4012.setCell ⟨gd, 5, none⟩ (.int .i64 (t1 : Int))) (fun b => F b ∨ (w.heap.size ≤ b ∧ b < wn4012.heap.size))) := Lib.hid (by
      rw [← ht1]
      exact rd_inc (D4012.out.more fun b hb => hb.imp (fun h => h) fun h => ⟨Nat.le_trans B4011.out.size h.1, h.2⟩))
    have hz : (wn4012.setCell ⟨gd, 5, none⟩ (.int .i64 (t1 : Int))).heap.size = wn4012.heap.size := by simp
    have FE : Hid (Fr w (wn4012.setCell ⟨gd, 5, none⟩ (.int .i64 (t1 : Int))) F) := Lib.hid (FR4012.out.trans (Fr.of_grown (F := F) (grown_set wn4012 gd 5 _) HFG.out) (fun _ _ h => h))
    rw [← hz] at DE
    have hx := D4012.out.1
    have c5 : wn4012.cell? ⟨gd, 5, none⟩ = some (.int .i64 (t : Int)) := by rw [cell_of_row wn4012 gd 5 _ _ (0, 0) hx]; rfl
    have f5 := frozen_of_row wn4012 gd 5 _ _ hx
    clear hx hz ht1
    go_wp2_with fail
    go_ret
    exact ⟨rfl, by rw [HT1.out]; exact DE, FE⟩
end Go.Proofs.YtidcnoejihjgjaaGreatDoor.Car
namespace Go.Proofs.YtidcnoejihjgjaaGreatDoor.Car
open Go.RowKit
open VecM RdM Vc Sp Pc El Cd Dc
def prO (A : Option Addr) (es : List (Nat × Nat)) (n : Nat) : Dc.Obj := fun W G => ∀ j r, es[j]? = some r → (∃ b o, A = some ⟨b, o, none⟩ ∧ G b ∧ b < W.heap.size ∧ W.cell? ⟨b, o + j, none⟩ = some (bval n r)) ∧ G r.1 ∧ r.1 < W.heap.size ∧ ∀ i u, (vb r.2 n)[i]? = some u → W.cell? ⟨r.1, 0 + i, none⟩ = some u
theorem keeps_pr (A : Option Addr) (es : List (Nat × Nat)) (n : Nat) : Dc.Keeps (prO A es n) := fun W W' F h hk hs j r hj => by
  obtain ⟨⟨b, o, e, hb, hl, hc⟩, hg, hl2, hcells⟩ := h j r hj
  exact ⟨⟨b, o, e, hb, Nat.lt_of_lt_of_le hl hs, (World.cell?_of_block (w := W) (hk b hb hl)).trans hc⟩, hg, Nat.lt_of_lt_of_le hl2 hs, fun i u hu => (World.cell?_of_block (w := W) (hk r.1 hg hl2)).trans (hcells i u hu)⟩
theorem pr_of {n base c k : Nat} {Xs : List Nat} {A : Option Addr} {W : World} {es : List (Nat × Nat)} (_h1 : es.map (·.2) = Xs) (h2 : W.ownsRow base 76 1 (.slice A k c) k (es.map (bval n))) (h3 : ∀ r ∈ es, W.ownsRow base 4 1 (.slice (some ⟨r.1, 0, none⟩) n n) n (vb r.2 n)) (hn : 0 < n) : prO A es n W (fun b => base ≤ b ∧ b < W.heap.size) := fun j r hj => by
  obtain ⟨b, o, e, hF, hl, hc⟩ := all_own h2 j (bval n r) (by rw [List.getElem?_map, hj]; rfl)
  have hr := h3 r (List.mem_of_getElem? hj)
  have hrow := Row.of_own hr
  obtain ⟨b2, o2, e2, hl2, hc2⟩ := hrow.2 hn
  injection e2 with e2
  injection e2 with e3 e4
  subst e3 e4
  exact ⟨⟨b, o, e, hF, hl, hc⟩, ⟨(hr.lt r.1 rfl).1, hl2⟩, hl2, fun i u hu => hc2 i u hu⟩
theorem pr_row {A : Option Addr} {es : List (Nat × Nat)} {n j : Nat} {r : Nat × Nat} {B C : Dc.Obj} {w0 W : World} (S : Dc.Sep3 (prO A es n) B C w0 W) (hj : es[j]? = some r) : Row W W.heap.size (some ⟨r.1, 0, none⟩) n (vb r.2 n) := by
  obtain ⟨F, G, H, a, _⟩ := S
  obtain ⟨_, _, hl, hc⟩ := a j r hj
  exact ⟨vb_length _ _, fun _ => ⟨r.1, 0, rfl, hl, hc⟩⟩
theorem pr_cell {A : Option Addr} {es : List (Nat × Nat)} {n j : Nat} {r : Nat × Nat} {B C : Dc.Obj} {w0 W : World} (S : Dc.Sep3 (prO A es n) B C w0 W) (hj : es[j]? = some r) : ∃ b o, A = some ⟨b, o, none⟩ ∧ W.cell? ⟨b, o + j, none⟩ = some (bval n r) := by
  obtain ⟨F, G, H, a, _⟩ := S
  obtain ⟨⟨b, o, e, _, _, hc⟩, _⟩ := a j r hj
  exact ⟨b, o, e, hc⟩
def RdT (gd gm gp Z : Nat) (W : World) : Prop := W.cell? ⟨gd, 4, none⟩ = some (.pointer (some ⟨gm, 0, none⟩)) ∧ W.cell? ⟨gp, 3, none⟩ = some (.int .i64 (Z : Int))
theorem rdT_drew {gd gm gp Z : Nat} {W : World} (h : RdT gd gm gp Z W) : RdT gd gm gp Z W.drew := h
theorem rdT_of {gd gm gp s K P Z t : Nat} {M : Mx} {B C : Dc.Obj} {w1 W : World} (hp : gp < w1.heap.size ∧ w1.cell? ⟨gp, 3, none⟩ = some (.int .i64 (Z : Int))) (S : Dc.Sep3 (rdO gd gm s K P Z t M) B C w1 W) : RdT gd gm gp Z W := by
  have hb := S.b
  obtain ⟨F, G, H, a, _⟩ := S
  exact ⟨(rdS_of a).2.2.2.2, (hb.cell (p := ⟨gp, 3, none⟩) hp.1).trans hp.2⟩
def RNewDOk (s K P Z : Nat) (w : World) (e : Ending) (w' : World) : Prop :=
  ∃ gd gm, e = .returned (.pointer (some ⟨gd, 0, none⟩)) ∧ Hid (Dc.Sep3 (rdO gd gm s K P Z 0 (matR s K P Z P)) Dc.noObj Dc.noObj w w')
set_option maxRecDepth 100000 in
set_option maxHeartbeats 6400000 in
theorem rnewD_any (s kk P Z : Nat) (w : World) (hs : s < 4294967296) (hK : 1 ≤ kk ∧ kk ≤ 64) (hP : P ≤ 16) (hZ : 1 ≤ Z ∧ Z ≤ 16) :
    Calls Tryz.prog 14 #[.agg #[.int .u32 (s : Int), .int .i64 (kk : Int), .int .i64 (P : Int), .int .i64 (Z : Int)]] w (RNewDOk s kk P Z w) := by
  have HX0 := Lib.hid (heap_alloc_new w (.cells #[.int .u32 (s : Int), .int .i64 (kk : Int), .int .i64 (P : Int), .int .i64 (Z : Int)] 35))
  have HB0 : Hid (Below w.heap.size w (w.alloc (.cells #[.int .u32 (s : Int), .int .i64 (kk : Int), .int .i64 (P : Int), .int .i64 (Z : Int)] 35))) := Lib.hid ((Below.refl _ _).alloc (Nat.le_refl _) _)
  have HL0 : Hid (w.heap.size < (w.alloc (.cells #[.int .u32 (s : Int), .int .i64 (kk : Int), .int .i64 (P : Int), .int .i64 (Z : Int)] 35)).heap.size) := Lib.hid (by simp)
  have HS := Lib.hid hs
  have HK := Lib.hid hK
  have HP := Lib.hid hP
  have HZ := Lib.hid hZ
  have HN80 : Hid (kk + P ≤ 80) := Lib.hid (by omega)
  have hmay : mayB (kk : Int) (P : Int) (Z : Int) = true := (mayB_iff _ _ _).2 ⟨by omega, by omega, by omega⟩
  have HMA := Lib.hid (fun W => rpmay2_any (s : Int) (kk : Int) (P : Int) (Z : Int) W)
  rw [hmay] at HMA
  have HNM : Hid (∀ W, Calls Tryz.prog 43 #[.int .i64 ((kk : Int) + (P : Int)), .int .i64 (Z : Int)] W (RNewOk (kk + P) Z W)) := Lib.hid (fun W => by
    have h := rnewM (kk + P) Z W (by omega) hZ
    rw [show ((kk + P : Nat) : Int) = (kk : Int) + (P : Int) from by omega] at h
    exact h)
  have hwkp : IntKind.i64.wrap ((kk : Int) + (P : Int)) = (kk : Int) + (P : Int) := IntWalk.i64_in _ (by omega)
  clear hs hK hP hZ hmay
  go_enter Tryz.func14, Tryz.ntmps14
  go_upto_region 1 with fail
  generalize hw0 : (w.alloc (.cells #[.int .u32 (s : Int), .int .i64 (kk : Int), .int .i64 (P : Int), .int .i64 (Z : Int)] 35)) = w0 at *
  clear hw0
  obtain ⟨y0, y1, y2, y3⟩ := box4 HX0.out
  go_wp2_with fail
  refine (HMA.out w0).mono ?_
  rintro e w1 ⟨rfl, hb1⟩
  have HX1 : Hid (w1.heap[w.heap.size]? = some (.cells #[.int .u32 (s : Int), .int .i64 (kk : Int), .int .i64 (P : Int), .int .i64 (Z : Int)] 35 (0, 0))) := Lib.hid ((hb1.block w.heap.size HL0.out).trans HX0.out)
  have HL1 : Hid (w.heap.size < w1.heap.size) := Lib.hid (Nat.lt_of_lt_of_le HL0.out hb1.size)
  have HB1 : Hid (Below w.heap.size w w1) := Lib.hid (HB0.out.trans (hb1.mono HB0.out.size))
  clear y0 y1 y2 y3 hb1 HX0 HL0 HB0 HMA
  have HFX : Hid (∀ W, Below w1.heap.size w1 W → W.cell? ⟨w.heap.size, 0, none⟩ = some (.int .u32 (s : Int)) ∧ W.cell? ⟨w.heap.size, 1, none⟩ = some (.int .i64 (kk : Int)) ∧ W.cell? ⟨w.heap.size, 2, none⟩ = some (.int .i64 (P : Int)) ∧ W.cell? ⟨w.heap.size, 3, none⟩ = some (.int .i64 (Z : Int))) := Lib.hid (fun W hW => box4 ((hW.block w.heap.size HL1.out).trans HX1.out))
  have HPX : Hid (w.heap.size < w1.heap.size ∧ w1.cell? ⟨w.heap.size, 3, none⟩ = some (.int .i64 (Z : Int))) := Lib.hid ⟨HL1.out, (HFX.out w1 (Below.refl _ _)).2.2.2⟩
  go_upto_region 3 with fail
  refine wp_region_noPanic ?_
  refine wp_region_held_drew (S := (fun W => Below w1.heap.size w1 W)) (by kernel_rfl) ((Below.refl w1.heap.size w1).drew) (fun hH0 => ?_)
  have hH0 : Below w1.heap.size w1 w1.drew := hH0
  generalize w1.drew = wd3000 at *
  refine wpAnyH_take (i := 0) (oi := _) (v := ?tkv3001) rfl (by kernel_rfl) (by kernel_rfl) (by kernel_rfl) (fun _ _ _ h => h) (Or.inl ⟨by rfl, ?tky3001⟩) hH0 ?tkr3001
  case tky3001 => (intro w' hSw; have z0 := HFX.out _ hSw; clear hSw; go_simp; try with_reducible rfl)
  try simp only [Act.put, List.setIfInBounds_toArray, List.set_cons_zero, List.set_cons_succ]
  refine wpAnyH_take (i := 1) (oi := _) (v := ?tkv3002) rfl (by kernel_rfl) (by kernel_rfl) (by kernel_rfl) (fun _ _ _ h => h) (Or.inl ⟨by rfl, ?tky3002⟩) hH0 ?tkr3002
  case tky3002 => (intro w' hSw; clear hSw; go_simp; try with_reducible rfl)
  try simp only [Act.put, List.setIfInBounds_toArray, List.set_cons_zero, List.set_cons_succ]
  refine wpAnyH_take (i := 2) (oi := _) (v := ?tkv3003) rfl (by kernel_rfl) (by kernel_rfl) (by kernel_rfl) (fun _ _ _ h => h) (Or.inl ⟨by rfl, ?tky3003⟩) hH0 ?tkr3003
  case tky3003 => (intro w' hSw; have z0 := HFX.out _ hSw; clear hSw; go_simp; try with_reducible rfl)
  try simp only [Act.put, List.setIfInBounds_toArray, List.set_cons_zero, List.set_cons_succ]
  refine wpAnyH_take (i := 3) (oi := _) (v := ?tkv3004) rfl (by kernel_rfl) (by kernel_rfl) (by kernel_rfl) (fun _ _ _ h => h) (Or.inl ⟨by rfl, ?tky3004⟩) hH0 ?tkr3004
  case tky3004 => (intro w' hSw; clear hSw; go_simp; try with_reducible rfl)
  try simp only [Act.put, List.setIfInBounds_toArray, List.set_cons_zero, List.set_cons_succ]
  refine wpAnyH_take (i := 4) (oi := _) (v := ?tkv3005) rfl (by kernel_rfl) (by kernel_rfl) (by kernel_rfl) (fun _ _ _ h => h) (Or.inl ⟨by rfl, ?tky3005⟩) hH0 ?tkr3005
  case tky3005 => (intro w' hSw; have z0 := HFX.out _ hSw; clear hSw; go_simp; try with_reducible rfl)
  try simp only [Act.put, List.setIfInBounds_toArray, List.set_cons_zero, List.set_cons_succ]
  refine wpAnyH_take (i := 5) (oi := _) (v := ?tkv3006) rfl (by kernel_rfl) (by kernel_rfl) (by kernel_rfl) (fun _ _ _ h => h) (Or.inl ⟨by rfl, ?tky3006⟩) hH0 ?tkr3006
  case tky3006 => (intro w' hSw; clear hSw; go_simp; try with_reducible rfl)
  try simp only [Act.put, List.setIfInBounds_toArray, List.set_cons_zero, List.set_cons_succ]
  refine wpAnyH_take (i := 6) (oi := _) (v := ?tkv3007) rfl (by kernel_rfl) (by kernel_rfl) (by kernel_rfl) (fun _ _ _ h => h) (Or.inl ⟨by rfl, ?tky3007⟩) hH0 ?tkr3007
  case tky3007 => (intro w' hSw; clear hSw; go_simp; try with_reducible rfl)
  try simp only [Act.put, List.setIfInBounds_toArray, List.set_cons_zero, List.set_cons_succ]
  refine wpAnyH_take (i := 7) (oi := _) (v := ?tkv3008) rfl (by kernel_rfl) (by kernel_rfl) (by kernel_rfl) (fun _ _ _ h => h) (Or.inl ⟨by rfl, ?tky3008⟩) hH0 ?tkr3008
  case tky3008 => (intro w' hSw; have z0 := HFX.out _ hSw; clear hSw; go_simp; try with_reducible rfl)
  try simp only [Act.put, List.setIfInBounds_toArray, List.set_cons_zero, List.set_cons_succ]
  refine wpAnyH_ready (rs := [8]) (by kernel_rfl) (by simp) ?_
  refine AllReadyH.cons (o := _) rfl (fun K hK => ?_) AllReadyH.nil
  go_simp
  refine (HNM.out wd3000).mono ?_
  rintro e' wn3009 ⟨gm, rfl, hm3009, hb3009'⟩
  have hb3009 := hb3009'.out
  have HM3009 := Lib.hid hm3009.out
  clear hm3009 hb3009'
  go_simp
  have hS3009 : Below w1.heap.size w1 wn3009 := (hH0).trans (hb3009.mono (hH0).size)
  refine hK.out _ _ hS3009 (fun hH3009 => ?_)
  have hH3009 : Below w1.heap.size w1 wn3009 := hH3009
  clear hK K hS3009
  try simp only [Act.put, List.setIfInBounds_toArray, List.set_cons_zero, List.set_cons_succ]
  refine wpAnyH_take (i := 9) (oi := _) (v := ?tkv3010) rfl (by kernel_rfl) (by kernel_rfl) (by kernel_rfl) (fun _ _ _ h => h) (Or.inl ⟨by rfl, ?tky3010⟩) hH3009 ?tkr3010
  case tky3010 => (intro w' hSw; clear hSw; go_simp; try with_reducible rfl)
  try simp only [Act.put, List.setIfInBounds_toArray, List.set_cons_zero, List.set_cons_succ]
  refine wpAnyH_ready (rs := [10]) (by kernel_rfl) (by simp) ?_
  refine AllReadyH.cons (o := _) rfl (fun K hK => ?_) AllReadyH.nil
  go_simp
  have hb3011 : Below wn3009.heap.size wn3009 (wn3009.alloc (.cells #[.int .u32 (s : Int), .int .i64 (kk : Int), .int .i64 (P : Int), .int .i64 (Z : Int), .pointer (some ⟨gm, 0, none⟩), .int .i64 0] 84)) := (Below.refl _ _).alloc (Nat.le_refl _) _
  have hS3011 : Below w1.heap.size w1 (wn3009.alloc (.cells #[.int .u32 (s : Int), .int .i64 (kk : Int), .int .i64 (P : Int), .int .i64 (Z : Int), .pointer (some ⟨gm, 0, none⟩), .int .i64 0] 84)) := (hH3009).trans (hb3011.mono (hH3009).size)
  refine hK.out _ _ hS3011 (fun hH3011 => ?_)
  have hH3011 : Below w1.heap.size w1 (wn3009.alloc (.cells #[.int .u32 (s : Int), .int .i64 (kk : Int), .int .i64 (P : Int), .int .i64 (Z : Int), .pointer (some ⟨gm, 0, none⟩), .int .i64 0] 84)) := hH3011
  clear hK K hS3011
  try simp only [Act.put, List.setIfInBounds_toArray, List.set_cons_zero, List.set_cons_succ]
  refine wpAnyH_take (i := 11) (oi := _) (v := ?tkv3012) rfl (by kernel_rfl) (by kernel_rfl) (by kernel_rfl) (fun _ _ _ h => h) (Or.inl ⟨by rfl, ?tky3012⟩) hH3011 ?tkr3012
  case tky3012 => (intro w' hSw; clear hSw; go_simp; try with_reducible rfl)
  try simp only [Act.put, List.setIfInBounds_toArray, List.set_cons_zero, List.set_cons_succ]
  refine wpAnyH_done (by kernel_rfl) ?_ _
  refine NoPanic.normal ?_
  obtain ⟨gd, hgd⟩ : ∃ g, wn3009.heap.size = g := ⟨_, rfl⟩
  have HD3 : Hid (rdO gd gm s kk P Z 0 (matR s kk P Z 0) (wn3009.alloc (.cells #[.int .u32 (s : Int), .int .i64 (kk : Int), .int .i64 (P : Int), .int .i64 (Z : Int), .pointer (some ⟨gm, 0, none⟩), .int .i64 0] 84)) (fun b => w1.heap.size ≤ b ∧ b < (wn3009.alloc (.cells #[.int .u32 (s : Int), .int .i64 (kk : Int), .int .i64 (P : Int), .int .i64 (Z : Int), .pointer (some ⟨gm, 0, none⟩), .int .i64 0] 84)).heap.size)) := Lib.hid (by
    have h1 := hH3009
    have h2 := HM3009.out
    have hz : (wn3009.alloc (.cells #[.int .u32 (s : Int), .int .i64 (kk : Int), .int .i64 (P : Int), .int .i64 (Z : Int), .pointer (some ⟨gm, 0, none⟩), .int .i64 0] 84)).heap.size = wn3009.heap.size + 1 := by simp
    have hs1 := h1.size
    have hs0 : w1.heap.size ≤ wd3000.heap.size := hH0.size
    subst hgd
    refine ⟨heap_alloc_new _ _, ⟨hs1, by omega⟩, (fun b => wd3000.heap.size ≤ b ∧ b < wn3009.heap.size), ?_, fun b (hb : wd3000.heap.size ≤ b ∧ b < wn3009.heap.size) => ⟨by omega, by omega⟩, fun (hb : wd3000.heap.size ≤ wn3009.heap.size ∧ wn3009.heap.size < wn3009.heap.size) => by omega⟩
    rw [show rowsTo (matR s kk P Z 0) (kk + P) = [] from rowsTo_start _ _]
    exact h2.below hb3011)
  have HB3 : Hid (Below w1.heap.size w1 (wn3009.alloc (.cells #[.int .u32 (s : Int), .int .i64 (kk : Int), .int .i64 (P : Int), .int .i64 (Z : Int), .pointer (some ⟨gm, 0, none⟩), .int .i64 0] 84))) := Lib.hid (hH3011)
  clear HM3009
  go_upto_region 4 with fail
  rw [hgd]
  generalize (wn3009.alloc (.cells #[.int .u32 (s : Int), .int .i64 (kk : Int), .int .i64 (P : Int), .int .i64 (Z : Int), .pointer (some ⟨gm, 0, none⟩), .int .i64 0] 84)) = w3 at *
  clear hgd
  have S3 : Hid (Dc.Sep3 (rdO gd gm s kk P Z 0 (matR s kk P Z 0)) Dc.noObj Dc.noObj w1 w3) := Lib.hid ((Dc.Sep3.start w1).create Dc.keeps_no Dc.keeps_no HB3.out HD3.out)
  have hpar := rparity_any s kk P Z w3 HS.out HK.out HP.out HZ.out
  unfold parV at hpar
  have HPA := Lib.hid hpar
  clear hpar
  obtain ⟨y0, y1, y2, y3⟩ := HFX.out w3 HB3.out
  go_wp2_with fail
  refine HPA.out.mono ?_
  rintro e w4 ⟨v, rfl, hpb, hb4⟩
  obtain ⟨es, hes1, hes2, hes3⟩ := hpb.out
  obtain ⟨Av, cv, rfl, _⟩ := own_slice hes2
  have hel : es.length = P := by
    have h := congrArg List.length hes1
    rwa [List.length_map, parAll_length] at h
  rw [parAll_length] at hes2
  have S4 : Hid (Dc.Sep3 (rdO gd gm s kk P Z 0 (matR s kk P Z 0)) (prO Av es (kk + P)) Dc.noObj w1 w4) := Lib.hid ((S3.out.swap.create (A' := prO Av es (kk + P)) (keeps_rd _ _ _ _ _ _ _ _) Dc.keeps_no hb4.out (pr_of hes1 hes2 (fun r hr => (hes3 r hr).2) (by have := HK.out; omega))).swap)
  have HEL := Lib.hid hel
  have HES := Lib.hid hes1
  clear hpb hb4 hes1 hes2 hes3 HPA y0 y1 y2 y3 S3 HD3 hel
  have hpi : (P : Int) ≤ 16 := by have := HP.out; omega
  rw [parAll_length]
  go_wp2_with fail
  go_loopw [23] (fun i wr => ∃ k : Nat, k ≤ P ∧ i = .int .i64 (k : Int) ∧ Hid (Dc.Sep3 (rdO gd gm s kk P Z 0 (matR s kk P Z k)) (prO Av es (kk + P)) Dc.noObj w1 wr)) (fun i _ => P - (intOf i).toNat)
  case atStart => exact ⟨0, by omega, rfl, S4⟩
  case round =>
    clear S4
    obtain ⟨k, hk, rfl, SR⟩ := hrel
    by_cases hlt : k < P
    · obtain ⟨r, hgr⟩ : ∃ r, es[k]? = some r := ⟨_, List.getElem?_eq_getElem (by have := HEL.out; omega)⟩
      have hrx : r.2 = parJ s kk k := by
        have h : (es.map (·.2))[k]? = some r.2 := by rw [List.getElem?_map, hgr]; rfl
        rw [HES.out] at h
        unfold parAll at h
        rw [List.getElem?_map, List.getElem?_range hlt] at h
        injection h with h
        exact h.symm
      obtain ⟨b, o, rfl, hcell⟩ := pr_cell SR.out.swap hgr
      unfold bval at hcell
      obtain ⟨rg, rX⟩ := r
      dsimp only at hrx hcell
      subst hrx
      have hki : (k : Int) < (P : Int) := by omega
      have HCT : Hid (∀ W, RdT gd gm w.heap.size Z W → W.cell? ⟨gd, 4, none⟩ = some (.pointer (some ⟨gm, 0, none⟩)) ∧ W.cell? ⟨w.heap.size, 3, none⟩ = some (.int .i64 (Z : Int))) := Lib.hid (fun _ h => h)
      go_upto_region 7 with fail
      clear hcell
      have SRD : Hid (Dc.Sep3 (rdO gd gm s kk P Z 0 (matR s kk P Z k)) (prO (some ⟨b, o, none⟩) es (kk + P)) Dc.noObj w1 wr.drew) := Lib.hid (SR.out.below (keeps_rd _ _ _ _ _ _ _ _) (keeps_pr _ _ _) Dc.keeps_no (Below.refl _ _).drew)
      refine wp_region_noPanic ?_
      refine wp_region_held_drew (S := (fun W => RdT gd gm w.heap.size Z W)) (by kernel_rfl) (rdT_drew (rdT_of HPX.out SR.out)) (fun hH0 => ?_)
      have hH0 : RdT gd gm w.heap.size Z wr.drew := hH0
      generalize wr.drew = wd7000 at *
      refine wpAnyH_take (i := 0) (oi := _) (v := ?tkv7001) rfl (by kernel_rfl) (by kernel_rfl) (by kernel_rfl) (fun _ _ _ h => h) (Or.inl ⟨by rfl, ?tky7001⟩) hH0 ?tkr7001
      case tky7001 => (intro w' hSw; clear hSw; go_simp; try with_reducible rfl)
      try simp only [Act.put, List.setIfInBounds_toArray, List.set_cons_zero, List.set_cons_succ]
      refine wpAnyH_take (i := 1) (oi := _) (v := ?tkv7002) rfl (by kernel_rfl) (by kernel_rfl) (by kernel_rfl) (fun _ _ _ h => h) (Or.inl ⟨by rfl, ?tky7002⟩) hH0 ?tkr7002
      case tky7002 => (intro w' hSw; clear hSw; go_simp; try with_reducible rfl)
      try simp only [Act.put, List.setIfInBounds_toArray, List.set_cons_zero, List.set_cons_succ]
      refine wpAnyH_take (i := 2) (oi := _) (v := ?tkv7003) rfl (by kernel_rfl) (by kernel_rfl) (by kernel_rfl) (fun _ _ _ h => h) (Or.inl ⟨by rfl, ?tky7003⟩) hH0 ?tkr7003
      case tky7003 => (intro w' hSw; clear hSw; go_simp; try with_reducible rfl)
      try simp only [Act.put, List.setIfInBounds_toArray, List.set_cons_zero, List.set_cons_succ]
      refine wpAnyH_take (i := 3) (oi := _) (v := ?tkv7004) rfl (by kernel_rfl) (by kernel_rfl) (by kernel_rfl) (fun _ _ _ h => h) (Or.inl ⟨by rfl, ?tky7004⟩) hH0 ?tkr7004
      case tky7004 => (intro w' hSw; have z0 := HCT.out _ hSw; clear hSw; go_simp; try with_reducible rfl)
      try simp only [Act.put, List.setIfInBounds_toArray, List.set_cons_zero, List.set_cons_succ]
      refine wpAnyH_take (i := 4) (oi := _) (v := ?tkv7005) rfl (by kernel_rfl) (by kernel_rfl) (by kernel_rfl) (fun _ _ _ h => h) (Or.inl ⟨by rfl, ?tky7005⟩) hH0 ?tkr7005
      case tky7005 => (intro w' hSw; clear hSw; go_simp; try with_reducible rfl)
      try simp only [Act.put, List.setIfInBounds_toArray, List.set_cons_zero, List.set_cons_succ]
      refine wpAnyH_take (i := 5) (oi := _) (v := ?tkv7006) rfl (by kernel_rfl) (by kernel_rfl) (by kernel_rfl) (fun _ _ _ h => h) (Or.inl ⟨by rfl, ?tky7006⟩) hH0 ?tkr7006
      case tky7006 => (intro w' hSw; clear hSw; go_simp; try with_reducible rfl)
      try simp only [Act.put, List.setIfInBounds_toArray, List.set_cons_zero, List.set_cons_succ]
      refine wpAnyH_take (i := 6) (oi := _) (v := ?tkv7007) rfl (by kernel_rfl) (by kernel_rfl) (by kernel_rfl) (fun _ _ _ h => h) (Or.inl ⟨by rfl, ?tky7007⟩) hH0 ?tkr7007
      case tky7007 => (intro w' hSw; have z0 := HCT.out _ hSw; clear hSw; go_simp; try with_reducible rfl)
      try simp only [Act.put, List.setIfInBounds_toArray, List.set_cons_zero, List.set_cons_succ]
      refine wpAnyH_ready (rs := [7]) (by kernel_rfl) (by simp) ?_
      refine AllReadyH.cons (o := _) rfl (fun K hK => ?_) AllReadyH.nil
      have hmk7008 := mk_bytes Z (by have := HZ.out; omega) wd7000
      go_simp
      clear hmk7008
      have hb7008 : Below wd7000.heap.size wd7000 (wd7000.alloc (.cells (Array.replicate Z (.int .u8 0)) 5)) := (Below.refl _ _).alloc (Nat.le_refl _) _
      have HR7008 : Hid (Row (wd7000.alloc (.cells (Array.replicate Z (.int .u8 0)) 5)) (wd7000.alloc (.cells (Array.replicate Z (.int .u8 0)) 5)).heap.size (some ⟨wd7000.heap.size, 0, none⟩) (List.replicate Z (0 : UInt8)).length (bv (List.replicate Z 0))) := Lib.hid (zero_row Z (by have := HZ.out; omega) wd7000)
      have SS7008 : Hid (Dc.Sep3 (rdO gd gm s kk P Z 0 (matR s kk P Z k)) (prO (some ⟨b, o, none⟩) es (kk + P)) Dc.noObj w1 (wd7000.alloc (.cells (Array.replicate Z (.int .u8 0)) 5))) := Lib.hid (SRD.out.below (keeps_rd _ _ _ _ _ _ _ _) (keeps_pr _ _ _) Dc.keeps_no hb7008)
      generalize hE7008 : (wd7000.alloc (.cells (Array.replicate Z (.int .u8 0)) 5)) = wn7008 at *
      clear hE7008
      have hS7008 : RdT gd gm w.heap.size Z wn7008 := rdT_of HPX.out SS7008.out
      refine hK.out _ _ hS7008 (fun hH7008 => ?_)
      have hH7008 : RdT gd gm w.heap.size Z wn7008 := hH7008
      clear hK K hS7008
      try simp only [Act.put, List.setIfInBounds_toArray, List.set_cons_zero, List.set_cons_succ]
      refine wpAnyH_ready (rs := [8]) (by kernel_rfl) (by simp) ?_
      refine AllReadyH.cons (o := _) rfl (fun K hK => ?_) AllReadyH.nil
      go_simp
      obtain ⟨FD7009, hd7009, _, next7009⟩ := SS7008.out.first (keeps_pr _ _ _) Dc.keeps_no
      have hrow7009 := pr_row SS7008.out.swap hgr
      have hrz7009 : Row wn7008 wn7008.heap.size (some ⟨wd7000.heap.size, 0, none⟩) Z (bv (List.replicate Z 0)) := by
        have h := HR7008.out
        rwa [List.length_replicate] at h
      refine (radd_rd hd7009 (matR_got HN80.out k (by omega)).inv hrow7009 hrz7009 (parJ_lt hlt)).mono ?_
      rintro e' wn7009 ⟨rfl, hdd7009, hf7009⟩
      have SS7009 : Hid (Dc.Sep3 (rdO gd gm s kk P Z 0 (matR s kk P Z (k + 1))) (prO (some ⟨b, o, none⟩) es (kk + P)) Dc.noObj w1 wn7009) := Lib.hid (next7009 wn7009 _ hdd7009.out hf7009.out)
      clear hd7009 next7009 hdd7009 hf7009 hrow7009 hrz7009
      go_simp
      have hS7009 : RdT gd gm w.heap.size Z wn7009 := rdT_of HPX.out SS7009.out
      refine hK.out _ _ hS7009 (fun hH7009 => ?_)
      have hH7009 : RdT gd gm w.heap.size Z wn7009 := hH7009
      clear hK K hS7009
      try simp only [Act.put, List.setIfInBounds_toArray, List.set_cons_zero, List.set_cons_succ]
      refine wpAnyH_done (by kernel_rfl) ?_ _
      refine NoPanic.normal ?_
      go_wp2_with fail
      go_roundw
      case rel => exact ⟨k + 1, by omega, by go_num, SS7009⟩
      case measure => simp [intOf]; omega
    · obtain rfl : P = k := by omega
      have hlx : ¬ (P : Int) < (P : Int) := by omega
      have HB1w := HB1
      have SE : Hid (Dc.Sep3 (rdO gd gm s kk P Z 0 (matR s kk P Z P)) Dc.noObj Dc.noObj w wr) := Lib.hid (by
        obtain ⟨F, G, H, a, _, _, h1, h2, h3, h4, h5⟩ := SR.out
        have hsz := HB1.out.size
        exact ⟨F, fun _ => False, fun _ => False, a, trivial, trivial, fun _ _ h => h.elim, fun _ _ h => h.elim, fun _ h => h.elim, fun q hq => by
          rcases hq with h | h | h
          · have := h4 q (.inl h); exact ⟨by omega, this.2⟩
          · exact h.elim
          · exact h.elim, HB1.out.trans (h5.mono hsz)⟩)
      clear SR HB1w
      go_wp2_with fail
      go_ret
      exact ⟨gd, gm, rfl, SE⟩
end Go.Proofs.YtidcnoejihjgjaaGreatDoor.Car
namespace Go.Proofs.YtidcnoejihjgjaaGreatDoor.Car
open Go.RowKit
open VecM RdM Vc Sp Pc El Cd Dc
set_option maxRecDepth 100000 in
set_option maxHeartbeats 1600000 in
theorem rneeds_any {gd gm s kk P Z t : Nat} {M : Mx} {w : World} {F : Nat → Prop} (h : rdO gd gm s kk P Z t M w F) (hlen : M.length = kk + P) (hn : kk + P ≤ 80) :
    Calls Tryz.prog 21 #[.pointer (some ⟨gd, 0, none⟩)] w fun e w' => e = .returned (.int .i64 (((kk + P : Nat) : Int) - (rankM M : Int))) ∧ Hid (Below w.heap.size w w') := by
  have hx := h.1
  have d4 : w.cell? ⟨gd, 4, none⟩ = some (.pointer (some ⟨gm, 0, none⟩)) := by rw [cell_of_row w gd _ _ _ (0, 0) hx]; rfl
  obtain ⟨_, _, Fm, hm, _, _⟩ := h
  have hc := hm.cells
  have c0 := hc.1
  obtain ⟨A, c, es, hg, _, hln⟩ := hm.at_
  have hel : es.length = rankM M := by
    have h := congrArg List.length hln
    rwa [List.length_map, rowsTo_rank hlen] at h
  have c2 : w.cell? ⟨gm, 2, none⟩ = some (.slice A es.length c) := by rw [cell_of_row w gm _ _ _ (0, 0) hg]; rfl
  rw [hel] at c2
  have hle : rankM M ≤ kk + P := by rw [← rowsTo_rank hlen]; exact rowsTo_le M _
  obtain ⟨n, hnn⟩ : ∃ n, kk + P = n := ⟨_, rfl⟩
  rw [hnn] at c0 hle hn ⊢
  obtain ⟨q, hq⟩ : ∃ q, rankM M = q := ⟨_, rfl⟩
  rw [hq] at c2 hle ⊢
  have hwn : IntKind.i64.wrap ((n : Int) - (q : Int)) = (n : Int) - (q : Int) := IntWalk.i64_in _ (by omega)
  clear hx hm hc hg hln hel hnn hq hlen
  go_enter Tryz.func21, Tryz.ntmps21
  go_upto_region 1 with fail
  go_region
  go_wp2_with fail
  go_ret
  exact ⟨rfl, Lib.hid (Below.refl _ _).drew⟩
end Go.Proofs.YtidcnoejihjgjaaGreatDoor.Car
