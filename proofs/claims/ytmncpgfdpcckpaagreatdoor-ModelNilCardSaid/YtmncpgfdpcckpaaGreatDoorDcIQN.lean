/- decode.Image: by contract. -/
import Derived.Test.YtmncpgfdpcckpaaGreatDoorDcNQN
set_option maxRecDepth 100000
namespace Go.Proofs.YtmncpgfdpcckpaaGreatDoor.Dc
open Go.RowKit
open VecM RdM Vc Sp Pc El
def joinLs (ls : List (List UInt8)) (len : Int) : List UInt8 := if len < 1 ∨ 512 < len then [] else if ((ls.flatMap fun l => l).length : Int) < len then [] else (ls.flatMap fun l => l).take len.toNat
theorem joinF_ls (es : List BRow) (len : Int) : joinF es len = joinLs (es.map (·.l)) len := by
 have : flat es = (es.map (·.l)).flatMap fun l => l := by rw [List.flatMap_map]; rfl
 unfold joinF joinLs
 rw [this]
def decL (s K P Z gm t : Nat) (d m : Int) (v : Value) : Array Value := #[.int .u32 (s : Int), .int .i64 (K : Int), .int .i64 (P : Int), .int .i64 (Z : Int), .pointer (some ⟨gm, 0, none⟩), .int .i64 (t : Int), .int .u32 d, .int .i32 m, .int .u32 0, v]
theorem sol_pcs {w wr : World} {gl n K B : Nat} {es : List BRow} (h : SolAt w gl n es wr) (hl : es.length = n) (hK : K ≤ n) (hB : B ≤ w.heap.size) : PcsIn wr (fun b => B ≤ b) gl K (es.take K) := by
 obtain ⟨cs, h1, _, h3⟩ := h.row
 refine ⟨by simp; omega, Nat.le_trans hB h.lo, ⟨cs, h1, fun i r hr => ?_⟩, fun r hr => ?_⟩
 ·by_cases hi : i < K
  ·rw [List.getElem?_take_of_lt hi] at hr; exact h3 i r hr
  ·rw [List.getElem?_eq_none (by simp; omega)] at hr; cases hr
 ·obtain ⟨a1, a2, d, a3, a4⟩ := h.at_ r (List.mem_of_mem_take hr)
  exact ⟨a1, a2, d, a3, Nat.le_trans hB (Nat.le_trans h.lo (Nat.le_of_lt a4))⟩
structure DM (s K P Z gm t gd b : Nat) (w W : World) : Prop where
 bt : But w.heap.size gd w W
 bx : W.heap[b]? = some (.cells #[.pointer (some ⟨gd, 0, none⟩)] 55 (0, 0))
 x : ∃ v, W.heap[gd]? = some (.cells (decL s K P Z gm t 0 1 v) 104 (0, 0))
theorem DM.size {s K P Z gm t gd b : Nat} {w W : World} (h : DM s K P Z gm t gd b w W) : w.heap.size ≤ W.heap.size := h.bt.size
theorem DM.below {s K P Z gm t gd b : Nat} {w W W' : World} (h : DM s K P Z gm t gd b w W) (hb : Below W.heap.size W W') : DM s K P Z gm t gd b w W' := by
 obtain ⟨v, hv⟩ := h.x
 exact ⟨h.bt.trans (But.of_below (hb.mono h.bt.size)), (hb.block _ (Array.getElem?_eq_some_iff.1 h.bx).1).trans h.bx, v, (hb.block _ (Array.getElem?_eq_some_iff.1 hv).1).trans hv⟩
theorem DM.store {s K P Z gm t gd b : Nat} {w W : World} (h : DM s K P Z gm t gd b w W) (u : Value) : DM s K P Z gm t gd b w (W.setCell ⟨gd, 9, none⟩ u) := by
 obtain ⟨v, hv⟩ := h.x
 have hne : b ≠ gd := by
  intro e
  have h1 := h.bx
  rw [e, hv] at h1
  injection h1 with h1
  injection h1 with h1 _ _
  have h2 := congrArg Array.size h1
  simp [decL] at h2
 exact ⟨h.bt.setSelf 9 u, (heap_setCell_other _ _ _ _ hne).trans h.bx, u, heap_setCell_same _ gd 9 _ _ u hv⟩
def OnceD (s K P Z gm t gd : Nat) (M : Mx) (w w2 : World) : Prop := ∃ gl c es, w2.heap[gd]? = some (.cells (decL s K P Z gm t 0 1 (.slice (some ⟨gl, 0, none⟩) K c)) 104 (0, 0)) ∧ PcsIn w2 (fun b => w.heap.size ≤ b) gl K es ∧ es.map (·.l) = (solM M).take K ∧ K ≤ c ∧ c ≤ 9223372036854775807 ∧ But w.heap.size gd w w2
set_option maxHeartbeats 1600000 in
theorem img1_any (s kk P Z gm t gd b : Nat) (FM : Nat → Prop) (M : Mx) (w : World) (hne : ∀ q, FM q → q ≠ gd) (_ : ∀ q, FM q → q < w.heap.size → q < w.heap.size) (hm : IsMat w FM gm (kk + P) Z M) (hfu : rankM M = kk + P) (hi : Inv (kk + P) Z M) (hK : 1 ≤ kk ∧ kk ≤ 64) (hP : P ≤ 16) (hg : gd < w.heap.size) (ha : DM s kk P Z gm t gd b w w) :
  Calls Tryz.prog 116 #[.pointer (some ⟨b, 0, none⟩)] w fun e w' => e = .returned (.tuple #[]) ∧ Hid (OnceD s kk P Z gm t gd M w w') := by
 have KA := Lib.hid ha
 have HFU := Lib.hid hfu
 have HKP : Hid (kk + P ≤ 80) := Lib.hid (by omega)
 have HGL := Lib.hid hg
 have HSL : Hid ((solM M).length = kk + P) := Lib.hid (by unfold solM; rw [List.length_map]; exact hi.len)
 have HMW : Hid (∀ W, DM s kk P Z gm t gd b w W → IsMat W FM gm (kk + P) Z M) := Lib.hid fun W hW => hm.keep fun q hq hl => hW.bt.block q hl (hne q hq)
 have HFX : Hid (∀ W, DM s kk P Z gm t gd b w W → W.cell? ⟨b, 0, none⟩ = some (.pointer (some ⟨gd, 0, none⟩)) ∧ W.cell? ⟨gd, 1, none⟩ = some (.int .i64 (kk : Int)) ∧ W.cell? ⟨gd, 4, none⟩ = some (.pointer (some ⟨gm, 0, none⟩))) := Lib.hid fun W hW => by
  obtain ⟨v, hv⟩ := hW.x
  exact ⟨dcell_at hW.bx rfl, dcell_at hv rfl, dcell_at hv rfl⟩
 have hs1 : (kk : Int) ≤ ((kk + P : Nat) : Int) := by omega
 have hs2 : (kk : Int) ≤ (kk : Int) + (P : Int) := by omega
 have hs3 : kk ≤ kk + P := Nat.le_add_right _ _
 clear hne hm hfu hi hK hP hg ha
 go_enter Tryz.func116, Tryz.ntmps116
 refine wp_region_noPanic ?_
 refine wp_region_held_drew (S := (fun W => DM s kk P Z gm t gd b w W)) (by kernel_rfl) (KA.out.below (Below.refl _ _).drew) (fun hH0 => ?_)
 have hH0 : DM s kk P Z gm t gd b w w.drew := hH0
 generalize w.drew = wd1000 at *
 refine wpAnyH_take (i := 0) (oi := _) (v := ?tkv1001) rfl (by kernel_rfl) (by kernel_rfl) (by kernel_rfl) (fun _ _ _ h => h) (Or.inl ⟨by rfl, ?tky1001⟩) hH0 ?tkr1001
 case tky1001 => (intro w' hSw; have z0 := HFX.out _ hSw; clear hSw; go_simp; try with_reducible rfl)
 try simp only [Act.put, zqa, zqb, zqc]
 refine wpAnyH_take (i := 1) (oi := _) (v := ?tkv1002) rfl (by kernel_rfl) (by kernel_rfl) (by kernel_rfl) (fun _ _ _ h => h) (Or.inl ⟨by rfl, ?tky1002⟩) hH0 ?tkr1002
 case tky1002 => (intro w' hSw; have z0 := HFX.out _ hSw; clear hSw; go_simp; try with_reducible rfl)
 try simp only [Act.put, zqa, zqb, zqc]
 refine wpAnyH_take (i := 2) (oi := _) (v := ?tkv1003) rfl (by kernel_rfl) (by kernel_rfl) (by kernel_rfl) (fun _ _ _ h => h) (Or.inl ⟨by rfl, ?tky1003⟩) hH0 ?tkr1003
 case tky1003 => (intro w' hSw; clear hSw; go_simp; try with_reducible rfl)
 try simp only [Act.put, zqa, zqb, zqc]
 refine wpAnyH_take (i := 3) (oi := _) (v := ?tkv1004) rfl (by kernel_rfl) (by kernel_rfl) (by kernel_rfl) (fun _ _ _ h => h) (Or.inl ⟨by rfl, ?tky1004⟩) hH0 ?tkr1004
 case tky1004 => (intro w' hSw; clear hSw; go_simp; try with_reducible rfl)
 try simp only [Act.put, zqa, zqb, zqc]
 refine wpAnyH_take (i := 4) (oi := _) (v := ?tkv1005) rfl (by kernel_rfl) (by kernel_rfl) (by kernel_rfl) (fun _ _ _ h => h) (Or.inl ⟨by rfl, ?tky1005⟩) hH0 ?tkr1005
 case tky1005 => (intro w' hSw; have z0 := HFX.out _ hSw; clear hSw; go_simp; try with_reducible rfl)
 try simp only [Act.put, zqa, zqb, zqc]
 refine wpAnyH_take (i := 6) (oi := _) (v := ?tkv1006) rfl (by kernel_rfl) (by kernel_rfl) (by kernel_rfl) (fun _ _ _ h => h) (Or.inl ⟨by rfl, ?tky1006⟩) hH0 ?tkr1006
 case tky1006 => (intro w' hSw; have z0 := HFX.out _ hSw; clear hSw; go_simp; try with_reducible rfl)
 try simp only [Act.put, zqa, zqb, zqc]
 refine wpAnyH_take (i := 7) (oi := _) (v := ?tkv1007) rfl (by kernel_rfl) (by kernel_rfl) (by kernel_rfl) (fun _ _ _ h => h) (Or.inl ⟨by rfl, ?tky1007⟩) hH0 ?tkr1007
 case tky1007 => (intro w' hSw; clear hSw; go_simp; try with_reducible rfl)
 try simp only [Act.put, zqa, zqb, zqc]
 refine wpAnyH_take (i := 8) (oi := _) (v := ?tkv1008) rfl (by kernel_rfl) (by kernel_rfl) (by kernel_rfl) (fun _ _ _ h => h) (Or.inl ⟨by rfl, ?tky1008⟩) hH0 ?tkr1008
 case tky1008 => (intro w' hSw; clear hSw; go_simp; try with_reducible rfl)
 try simp only [Act.put, zqa, zqb, zqc]
 refine wpAnyH_take (i := 9) (oi := _) (v := ?tkv1009) rfl (by kernel_rfl) (by kernel_rfl) (by kernel_rfl) (fun _ _ _ h => h) (Or.inl ⟨by rfl, ?tky1009⟩) hH0 ?tkr1009
 case tky1009 => (intro w' hSw; clear hSw; go_simp; try with_reducible rfl)
 try simp only [Act.put, zqa, zqb, zqc]
 refine wpAnyH_take (i := 10) (oi := _) (v := ?tkv1010) rfl (by kernel_rfl) (by kernel_rfl) (by kernel_rfl) (fun _ _ _ h => h) (Or.inl ⟨by rfl, ?tky1010⟩) hH0 ?tkr1010
 case tky1010 => (intro w' hSw; have z0 := HFX.out _ hSw; clear hSw; go_simp; try with_reducible rfl)
 try simp only [Act.put, zqa, zqb, zqc]
 refine wpAnyH_ready (rs := [5]) (by kernel_rfl) (by simp) ?_
 refine AllReadyH.cons (o := _) rfl (fun K hK => ?_) AllReadyH.nil
 go_simp
 refine (solveI (HMW.out wd1000 (hH0)) HFU.out).mono ?_
 rintro e' wn1011 ⟨gl, es, rfl, hes1011, hs1011⟩
 have hb1011 : Below wd1000.heap.size wd1000 wn1011 := hs1011.out.b
 have HP1011 : Hid (PcsIn wn1011 (fun b => w.heap.size ≤ b) gl kk (es.take kk)) := Lib.hid (sol_pcs hs1011.out (by rw [← List.length_map (f := (·.l)), hes1011, HSL.out]) (Nat.le_add_right _ _) (hH0).size)
 have HE1011 : Hid ((es.take kk).map (·.l) = (solM M).take kk) := Lib.hid (by rw [List.map_take, hes1011])
 clear hes1011 hs1011
 go_simp
 have hS1011 : DM s kk P Z gm t gd b w wn1011 := (hH0).below hb1011
 refine hK.out _ _ hS1011 (fun hH1011 => ?_)
 have hH1011 : DM s kk P Z gm t gd b w wn1011 := hH1011
 clear hK K hS1011
 try simp only [Act.put, zqa, zqb, zqc]
 refine wpAnyH_take (i := 11) (oi := _) (v := ?tkv1012) rfl (by kernel_rfl) (by kernel_rfl) (by kernel_rfl) (fun _ _ _ h => h) (Or.inl ⟨by rfl, ?tky1012⟩) hH1011 ?tkr1012
 case tky1012 => (intro w' hSw; have z0 := HFX.out _ hSw; clear hSw; go_simp; try with_reducible rfl)
 try simp only [Act.put, zqa, zqb, zqc]
 refine wpAnyH_take (i := 12) (oi := _) (v := ?tkv1013) rfl (by kernel_rfl) (by kernel_rfl) (by kernel_rfl) (fun _ _ _ h => h) (Or.inl ⟨by rfl, ?tky1013⟩) hH1011 ?tkr1013
 case tky1013 => (intro w' hSw; clear hSw; go_simp; try with_reducible rfl)
 try simp only [Act.put, zqa, zqb, zqc]
 refine wpAnyH_take (i := 13) (oi := _) (v := ?tkv1014) rfl (by kernel_rfl) (by kernel_rfl) (by kernel_rfl) (fun _ _ _ h => h) (Or.inl ⟨by rfl, ?tky1014⟩) hH1011 ?tkr1014
 case tky1014 => (intro w' hSw; clear hSw; go_simp; try with_reducible rfl)
 try simp only [Act.put, zqa, zqb, zqc]
 refine wpAnyH_ready (rs := [14]) (by kernel_rfl) (by simp) ?_
 refine AllReadyH.cons (o := _) rfl (fun K hK => ?_) AllReadyH.nil
 obtain ⟨vo1015, hx1015⟩ := (hH1011).x
 have cc1015 := dcell_at hx1015 (p := 9) rfl
 have cf1015 := frozen_of_row wn1011 gd 9 _ _ hx1015
 go_simp
 have hS1015 : DM s kk P Z gm t gd b w (wn1011.setCell ⟨gd, 9, none⟩ (.slice (some ⟨gl, 0, none⟩) kk (kk + P))) := ((hH1011).store _)
 refine hK.out _ _ hS1015 (fun hH1015 => ?_)
 have hH1015 : DM s kk P Z gm t gd b w (wn1011.setCell ⟨gd, 9, none⟩ (.slice (some ⟨gl, 0, none⟩) kk (kk + P))) := hH1015
 clear hK K hS1015
 refine wpAnyH_done (by kernel_rfl) ?_ _
 refine NoPanic.normal ?_
 have hfx : (wn1011.setCell ⟨gd, 9, none⟩ (.slice (some ⟨gl, 0, none⟩) kk (kk + P))).heap[gd]? = some (.cells (decL s kk P Z gm t 0 1 (.slice (some ⟨gl, 0, none⟩) kk (kk + P))) 104 (0, 0)) := by
  obtain ⟨vo, hx⟩ := (hH1011).x
  exact heap_setCell_same _ gd 9 _ _ _ hx
 have hbt := ((hH1011).store (.slice (some ⟨gl, 0, none⟩) kk (kk + P))).bt
 have hpc : PcsIn (wn1011.setCell ⟨gd, 9, none⟩ (.slice (some ⟨gl, 0, none⟩) kk (kk + P))) (fun b => w.heap.size ≤ b) gl kk (es.take kk) := HP1011.out.keep fun b hb _ => heap_setCell_other _ _ _ _ (by have := HGL.out; show b ≠ gd; omega)
 have HOUT := Lib.hid (And.intro hfx (And.intro hpc (And.intro HE1011.out hbt)))
 clear hfx hbt hpc
 go_wp2_with fail
 go_end0
 exact ⟨rfl, Lib.hid ⟨gl, kk + P, es.take kk, HOUT.out.1, HOUT.out.2.1, HOUT.out.2.2.1, Nat.le_add_right _ _, by have := HKP.out; omega, HOUT.out.2.2.2⟩⟩
theorem dm_start {s K P Z gm t gd b : Nat} {w : World} (h1 : w.heap[gd]? = some (.cells (decC s K P Z gm t 0 (.slice none 0 0)) 104 (0, 0))) (hb : w.heap[b]? = some (.cells #[.pointer (some ⟨gd, 0, none⟩)] 55 (0, 0))) (hne : b ≠ gd) :
  ∃ w1, (w.setCell ⟨gd, 7, none⟩ (.int .i32 1)) = w1 ∧ w1.heap.size = w.heap.size ∧ DM s K P Z gm t gd b w1 w1 ∧ But w.heap.size gd w w1 :=
 ⟨_, rfl, by simp, ⟨But.refl _ _ _, (heap_setCell_other _ _ _ _ hne).trans hb, _, heap_setCell_same _ gd 7 _ _ _ h1⟩, (But.refl _ _ _).setSelf 7 _⟩
def DoneQ (F : Nat → Prop) (gd s K P Z gm : Nat) (M : Mx) (t : Nat) (w wq : World) : Prop :=
 ∃ gl c es, wq.heap[gd]? = some (.cells (decC s K P Z gm t 1 (.slice (some ⟨gl, 0, none⟩) K c)) 104 (0, 0)) ∧ PcsIn wq (fun b => (F b ∨ (w.heap.size ≤ b ∧ b < wq.heap.size)) ∧ b ≠ gd) gl K es ∧ es.map (·.l) = (solM M).take K ∧ K ≤ c ∧ c ≤ 9223372036854775807 ∧
  IsDec wq (fun b => F b ∨ (w.heap.size ≤ b ∧ b < wq.heap.size)) gd s K P Z M t ∧ Fr w wq F ∧ wq.cell? ⟨w.heap.size, 0, none⟩ = some (.pointer (some ⟨gd, 0, none⟩))
theorem DoneQ.box {F : Nat → Prop} {gd s K P Z gm t : Nat} {M : Mx} {w wq : World} (h : DoneQ F gd s K P Z gm M t w wq) : wq.cell? ⟨w.heap.size, 0, none⟩ = some (.pointer (some ⟨gd, 0, none⟩)) := by
 obtain ⟨_, _, _, _, _, _, _, _, _, _, h⟩ := h
 exact h
theorem pcs_lt {W : World} {F : Nat → Prop} {gl K : Nat} {es : List BRow} (h : PcsIn W F gl K es) {F' : Nat → Prop} (hF : ∀ b, F b → b < W.heap.size → F' b) : PcsIn W F' gl K es := by
 obtain ⟨cs, h1, h2⟩ := h.row
 refine ⟨h.len, hF gl h.fl (Array.getElem?_eq_some_iff.1 h1).1, h.row, fun r hr => ?_⟩
 obtain ⟨a1, a2, d, a3, a4⟩ := h.at_ r hr
 exact ⟨a1, a2, d, a3, hF d a4 (a2.lt (by rw [a3]; rfl))⟩
theorem once_doneQ {F FM : Nat → Prop} {gd s K P Z gm t : Nat} {M : Mx} {w wc w1 w2 : World} (hgd : F gd) (hFM : ∀ b, FM b → F b ∧ b ≠ gd) (hm : IsMat w FM gm (K + P) Z M) (hfu : rankM M = K + P) (hbc : Below w.heap.size w wc) (hlt : gd < w.heap.size) (hbt : But wc.heap.size gd wc w1) (hz : w1.heap.size = wc.heap.size)
  (hd1 : DM s K P Z gm t gd w.heap.size w1 w1) (hnb : w.heap.size ≠ gd) (h : OnceD s K P Z gm t gd M w1 w2) : DoneQ F gd s K P Z gm M t w ((w2.drew.setCell ⟨gd, 6, none⟩ (.int .u32 1)).setCell ⟨gd, 7, none⟩ (.int .i32 0)) := by
 obtain ⟨gl, c, es, h1, h2, h3, h4, h5, h6⟩ := h
 have h1d : w2.drew.heap[gd]? = some (.cells (decL s K P Z gm t 0 1 (.slice (some ⟨gl, 0, none⟩) K c)) 104 (0, 0)) := h1
 have e2 : ((w2.drew.setCell ⟨gd, 6, none⟩ (.int .u32 1)).setCell ⟨gd, 7, none⟩ (.int .i32 0)).heap[gd]? = some (.cells (decC s K P Z gm t 1 (.slice (some ⟨gl, 0, none⟩) K c)) 104 (0, 0)) := heap_setCell_same _ gd 7 _ _ (.int .i32 0) (heap_setCell_same w2.drew gd 6 _ _ (.int .u32 1) h1d)
 have ko : ∀ b, b ≠ gd → ((w2.drew.setCell ⟨gd, 6, none⟩ (.int .u32 1)).setCell ⟨gd, 7, none⟩ (.int .i32 0)).heap[b]? = w2.heap[b]? := fun b hb => (heap_setCell_other _ _ _ _ hb).trans (heap_setCell_other w2.drew _ _ _ hb)
 have hsz : ((w2.drew.setCell ⟨gd, 6, none⟩ (.int .u32 1)).setCell ⟨gd, 7, none⟩ (.int .i32 0)).heap.size = w2.heap.size := by
  have : (w2.drew.setCell ⟨gd, 6, none⟩ (.int .u32 1)).heap.size = w2.drew.heap.size := by simp
  simp
 have hs6 := h6.size
 have hsc := hbc.size
 have hlc : gd < wc.heap.size := Nat.lt_of_lt_of_le hlt hsc
 have old : ∀ b, b < w.heap.size → b ≠ gd → w2.heap[b]? = w.heap[b]? := fun b hb hn => ((h6.block b (by omega) hn).trans (hbt.block b (by omega) hn)).trans (hbc.block b hb)
 have hpq : PcsIn ((w2.drew.setCell ⟨gd, 6, none⟩ (.int .u32 1)).setCell ⟨gd, 7, none⟩ (.int .i32 0)) (fun b => (F b ∨ (w.heap.size ≤ b ∧ b < ((w2.drew.setCell ⟨gd, 6, none⟩ (.int .u32 1)).setCell ⟨gd, 7, none⟩ (.int .i32 0)).heap.size)) ∧ b ≠ gd) gl K es := by
  have hq := h2.keep (W' := ((w2.drew.setCell ⟨gd, 6, none⟩ (.int .u32 1)).setCell ⟨gd, 7, none⟩ (.int .i32 0))) fun b hb _ => ko b (by omega)
  exact pcs_lt hq fun b hb hl => ⟨.inr ⟨by omega, hl⟩, by omega⟩
 have hF9 : Fr w ((w2.drew.setCell ⟨gd, 6, none⟩ (.int .u32 1)).setCell ⟨gd, 7, none⟩ (.int .i32 0)) F :=
  ⟨(h6.os.trans hbt.os).trans hbc.os, (h6.tape.trans hbt.tape).trans hbc.tape, (h6.output.trans hbt.output).trans hbc.output, by rw [hsz]; omega, fun b hb hn => by
   have hng : b ≠ gd := fun e => hn (by rw [e]; exact hgd)
   exact (ko b hng).trans (old b hb hng)⟩
 refine ⟨gl, c, es, e2, hpq, h3, h4, h5, ⟨.inl hgd, gm, FM, fun b hb => ⟨.inl (hFM b hb).1, (hFM b hb).2⟩, hm.keep fun b hb hl => (ko b (hFM b hb).2).trans (old b hl (hFM b hb).2), .inr ⟨hfu, gl, c, es, e2, hpq, h3, h4, h5⟩⟩, hF9, ?_⟩
 rw [cell_of_row _ w.heap.size 0 _ _ (0, 0) ((ko _ hnb).trans ((h6.block w.heap.size (by rw [hz]; have := (Array.getElem?_eq_some_iff.1 hd1.bx).1; omega) hnb).trans hd1.bx))]
 rfl
def ImgOk (F : Nat → Prop) (gd s K P Z : Nat) (M : Mx) (t : Nat) (len : Int) (w : World) (e : Ending) (w' : World) : Prop :=
 ∃ A n c, e = .returned (.tuple #[.slice A n c, .bool true]) ∧ Hid (n = (joinLs ((solM M).take K) len).length) ∧ Hid (w'.ownsRow w.heap.size 5 1 (.slice A n c) n (bv (joinLs ((solM M).take K) len))) ∧ Hid (IsDec w' (fun b => F b ∨ (w.heap.size ≤ b ∧ b < w'.heap.size)) gd s K P Z M t) ∧ Hid (Fr w w' F)
set_option maxHeartbeats 3200000 in
theorem image_any (F : Nat → Prop) (gd s kk P Z t : Nat) (M : Mx) (len : Int) (w : World) (h : IsDec w F gd s kk P Z M t) (hi : Inv (kk + P) Z M) (hfu : rankM M = kk + P) (hcn : BlkM.count len (Z : Int) = kk) (hK : 1 ≤ kk ∧ kk ≤ 64) (hP : P ≤ 16) :
  Calls Tryz.prog 76 #[.pointer (some ⟨gd, 0, none⟩), .int .i64 len] w (ImgOk F gd s kk P Z M t len w) := by
 have hD := h
 obtain ⟨hgd, gm, FM, hFM, hm, hx⟩ := h
 have HFU := Lib.hid hfu
 have HI := Lib.hid hi
 have HK := Lib.hid hK
 have HP := Lib.hid hP
 have HGD := Lib.hid hgd
 have HFM := Lib.hid hFM
 have HFL : Hid (decide (rankM M = kk + P) = true) := Lib.hid (by simp [hfu])
 have HCN := Lib.hid hcn
 have hne1 : (((kk : Nat) : Int) != (kk : Int)) = false := by simp
 rcases hx with hc | ⟨_, gl, c, es, hc, hp, he, hcc⟩
 ·have hl := (Array.getElem?_eq_some_iff.1 hc).1
  have HM := Lib.hid hm
  have HX0 := Lib.hid (heap_alloc_new w (.cells #[.pointer (some ⟨gd, 0, none⟩)] 55))
  have HB0 : Hid (Below w.heap.size w (w.alloc (.cells #[.pointer (some ⟨gd, 0, none⟩)] 55))) := (Below.refl _ _).alloc (Nat.le_refl _) _
  have hz0 : (w.alloc (.cells #[.pointer (some ⟨gd, 0, none⟩)] 55)).heap.size = w.heap.size + 1 := by simp
  have HZ0 := Lib.hid hz0
  clear hz0
  have HFX : Hid (∀ W, Below (w.alloc (.cells #[.pointer (some ⟨gd, 0, none⟩)] 55)).heap.size (w.alloc (.cells #[.pointer (some ⟨gd, 0, none⟩)] 55)) W → W.cell? ⟨w.heap.size, 0, none⟩ = some (.pointer (some ⟨gd, 0, none⟩)) ∧ ((W.cell? ⟨gd, 0, none⟩ = some (.int .u32 (s : Int)) ∧ W.cell? ⟨gd, 1, none⟩ = some (.int .i64 (kk : Int)) ∧ W.cell? ⟨gd, 2, none⟩ = some (.int .i64 (P : Int)) ∧ W.cell? ⟨gd, 3, none⟩ = some (.int .i64 (Z : Int))) ∧ W.cell? ⟨gd, 4, none⟩ = some (.pointer (some ⟨gm, 0, none⟩)))) := Lib.hid fun W hW => ⟨dcell_at ((hW.block w.heap.size (by have := HZ0.out; omega)).trans HX0.out) rfl, dcells (((HB0.out.trans (hW.mono HB0.out.size)).block gd hl).trans hc)⟩
  have HC := Lib.hid hc
  have HLT := Lib.hid hl
  have HNB : Hid (w.heap.size ≠ gd) := Lib.hid (by omega)
  clear hgd hFM hm hc hl hfu hi hK hP hcn hD
  go_enter Tryz.func76, Tryz.ntmps76
  go_upto_region 1 with fail
  generalize (w.alloc (.cells #[.pointer (some ⟨gd, 0, none⟩)] 55)) = w0 at *
  refine wp_region_noPanic ?_
  refine wp_region_held_drew (S := (fun W => Below (w0.heap.size) w0 W)) (by kernel_rfl) (Below.refl _ _).drew (fun hH0 => ?_)
  have hH0 : Below (w0.heap.size) w0 w0.drew := hH0
  generalize w0.drew = wd4000 at *
  refine wpAnyH_take (i := 0) (oi := { dst := some 6, op := Op.load 55 (Operand.tmp 2), type := 55, pos := _, after := _, guard := none }) (v := ?tkv4001) rfl (by kernel_rfl) (by kernel_rfl) (by kernel_rfl) (fun _ _ _ h => h) (Or.inl ⟨by rfl, ?tky4001⟩) hH0 ?tkr4001
  case tky4001 => (intro w' hSw; have z0 := HFX.out _ hSw; clear hSw; go_simp; try with_reducible rfl)
  try simp only [Act.put, zqa, zqb, zqc]
  refine wpAnyH_take (i := 1) (oi := { dst := some 7, op := Op.binOp BinOp.eql 55 (Operand.tmp 6) (Operand.const (Value.pointer none)) 55, type := 4, pos := _, after := _, guard := none }) (v := ?tkv4002) rfl (by kernel_rfl) (by kernel_rfl) (by kernel_rfl) (fun _ _ _ h => h) (Or.inl ⟨by rfl, ?tky4002⟩) hH0 ?tkr4002
  case tky4002 => (intro w' hSw; clear hSw; go_simp; try with_reducible rfl)
  try simp only [Act.put, zqa, zqb, zqc]
  refine wpAnyH_take (i := 2) (oi := { dst := some 8, op := Op.move (Operand.tmp 7), type := 4, pos := _, after := _, guard := none }) (v := ?tkv4003) rfl (by kernel_rfl) (by kernel_rfl) (by kernel_rfl) (fun _ _ _ h => h) (Or.inl ⟨by rfl, ?tky4003⟩) hH0 ?tkr4003
  case tky4003 => (intro w' hSw; clear hSw; go_simp; try with_reducible rfl)
  try simp only [Act.put, zqa, zqb, zqc]
  refine wpAnyH_take (i := 3) (oi := { dst := some 9, op := Op.load 55 (Operand.tmp 2), type := 55, pos := _, after := _, guard := some (2, false) }) (v := ?tkv4004) rfl (by kernel_rfl) (by kernel_rfl) (by kernel_rfl) (fun _ _ _ h => h) (Or.inl ⟨by rfl, ?tky4004⟩) hH0 ?tkr4004
  case tky4004 => (intro w' hSw; have z0 := HFX.out _ hSw; clear hSw; go_simp; try with_reducible rfl)
  try simp only [Act.put, zqa, zqb, zqc]
  refine wpAnyH_take (i := 4) (oi := { dst := some 10, op := Op.nilCheck (Operand.tmp 9), type := 0, pos := _, after := _, guard := some (2, false) }) (v := ?tkv4005) rfl (by kernel_rfl) (by kernel_rfl) (by kernel_rfl) (fun _ _ _ h => h) (Or.inl ⟨by rfl, ?tky4005⟩) hH0 ?tkr4005
  case tky4005 => (intro w' hSw; clear hSw; go_simp; try with_reducible rfl)
  try simp only [Act.put, zqa, zqb, zqc]
  refine wpAnyH_take (i := 5) (oi := { dst := some 11, op := Op.fieldAddr 104 (Operand.tmp 10) 1, type := 0, pos := _, after := _, guard := some (2, false) }) (v := ?tkv4006) rfl (by kernel_rfl) (by kernel_rfl) (by kernel_rfl) (fun _ _ _ h => h) (Or.inl ⟨by rfl, ?tky4006⟩) hH0 ?tkr4006
  case tky4006 => (intro w' hSw; clear hSw; go_simp; try with_reducible rfl)
  try simp only [Act.put, zqa, zqb, zqc]
  refine wpAnyH_take (i := 6) (oi := { dst := some 12, op := Op.load 87 (Operand.tmp 11), type := 87, pos := _, after := _, guard := some (2, false) }) (v := ?tkv4007) rfl (by kernel_rfl) (by kernel_rfl) (by kernel_rfl) (fun _ _ _ h => h) (Or.inl ⟨by rfl, ?tky4007⟩) hH0 ?tkr4007
  case tky4007 => (intro w' hSw; have z0 := HFX.out _ hSw; clear hSw; go_simp; try with_reducible rfl)
  try simp only [Act.put, zqa, zqb, zqc]
  refine wpAnyH_ready (rs := [7]) (by kernel_rfl) (by simp) ?_
  refine AllReadyH.cons (o := { dst := some 13, op := Op.call { callee := Callee.value (Operand.func 114), args := #[Operand.tmp 12], argTypes := #[87] }, type := 4, pos := _, after := _, guard := some (2, false) }) rfl (fun K hK => ?_) AllReadyH.nil
  go_simp
  have hfu4008 := fullI (HM.out.below ((HB0.out.trans ((hH0).mono HB0.out.size))))
  rw [HFL.out] at hfu4008
  refine hfu4008.mono ?_
  clear hfu4008
  rintro e' wn4008 ⟨rfl, hb4008'⟩
  have hb4008 := hb4008'.out
  clear hb4008'
  go_simp
  have hS4008 : Below (w0.heap.size) w0 wn4008 := (hH0).trans (hb4008.mono (hH0).size)
  refine hK.out _ _ hS4008 (fun hH4008 => ?_)
  have hH4008 : Below (w0.heap.size) w0 wn4008 := hH4008
  clear hK K hS4008
  try simp only [Act.put, zqa, zqb, zqc]
  refine wpAnyH_take (i := 8) (oi := { dst := some 14, op := Op.unOp UnOp.not 4 (Operand.tmp 13), type := 4, pos := _, after := _, guard := some (2, false) }) (v := ?tkv4009) rfl (by kernel_rfl) (by kernel_rfl) (by kernel_rfl) (fun _ _ _ h => h) (Or.inl ⟨by rfl, ?tky4009⟩) hH4008 ?tkr4009
  case tky4009 => (intro w' hSw; clear hSw; go_simp; try with_reducible rfl)
  try simp only [Act.put, zqa, zqb, zqc]
  refine wpAnyH_take (i := 9) (oi := { dst := some 15, op := Op.pick (Operand.tmp 8) (Operand.const (Value.bool true)) (Operand.tmp 14), type := 4, pos := _, after := _, guard := none }) (v := ?tkv4010) rfl (by kernel_rfl) (by kernel_rfl) (by kernel_rfl) (fun _ _ _ h => h) (Or.inl ⟨by rfl, ?tky4010⟩) hH4008 ?tkr4010
  case tky4010 => (intro w' hSw; clear hSw; go_simp; try with_reducible rfl)
  try simp only [Act.put, zqa, zqb, zqc]
  refine wpAnyH_take (i := 10) (oi := { dst := some 16, op := Op.move (Operand.tmp 15), type := 4, pos := _, after := _, guard := none }) (v := ?tkv4011) rfl (by kernel_rfl) (by kernel_rfl) (by kernel_rfl) (fun _ _ _ h => h) (Or.inl ⟨by rfl, ?tky4011⟩) hH4008 ?tkr4011
  case tky4011 => (intro w' hSw; clear hSw; go_simp; try with_reducible rfl)
  try simp only [Act.put, zqa, zqb, zqc]
  refine wpAnyH_take (i := 11) (oi := { dst := some 17, op := Op.move (Operand.tmp 1), type := 3, pos := _, after := _, guard := some (10, false) }) (v := ?tkv4012) rfl (by kernel_rfl) (by kernel_rfl) (by kernel_rfl) (fun _ _ _ h => h) (Or.inl ⟨by rfl, ?tky4012⟩) hH4008 ?tkr4012
  case tky4012 => (intro w' hSw; clear hSw; go_simp; try with_reducible rfl)
  try simp only [Act.put, zqa, zqb, zqc]
  refine wpAnyH_take (i := 12) (oi := { dst := some 18, op := Op.load 55 (Operand.tmp 2), type := 55, pos := _, after := _, guard := some (10, false) }) (v := ?tkv4013) rfl (by kernel_rfl) (by kernel_rfl) (by kernel_rfl) (fun _ _ _ h => h) (Or.inl ⟨by rfl, ?tky4013⟩) hH4008 ?tkr4013
  case tky4013 => (intro w' hSw; have z0 := HFX.out _ hSw; clear hSw; go_simp; try with_reducible rfl)
  try simp only [Act.put, zqa, zqb, zqc]
  refine wpAnyH_take (i := 13) (oi := { dst := some 19, op := Op.nilCheck (Operand.tmp 18), type := 0, pos := _, after := _, guard := some (10, false) }) (v := ?tkv4014) rfl (by kernel_rfl) (by kernel_rfl) (by kernel_rfl) (fun _ _ _ h => h) (Or.inl ⟨by rfl, ?tky4014⟩) hH4008 ?tkr4014
  case tky4014 => (intro w' hSw; clear hSw; go_simp; try with_reducible rfl)
  try simp only [Act.put, zqa, zqb, zqc]
  refine wpAnyH_take (i := 14) (oi := { dst := some 20, op := Op.fieldAddr 104 (Operand.tmp 19) 0, type := 0, pos := _, after := _, guard := some (10, false) }) (v := ?tkv4015) rfl (by kernel_rfl) (by kernel_rfl) (by kernel_rfl) (fun _ _ _ h => h) (Or.inl ⟨by rfl, ?tky4015⟩) hH4008 ?tkr4015
  case tky4015 => (intro w' hSw; clear hSw; go_simp; try with_reducible rfl)
  try simp only [Act.put, zqa, zqb, zqc]
  refine wpAnyH_take (i := 15) (oi := { dst := some 21, op := Op.fieldAddr 76 (Operand.tmp 20) 3, type := 0, pos := _, after := _, guard := some (10, false) }) (v := ?tkv4016) rfl (by kernel_rfl) (by kernel_rfl) (by kernel_rfl) (fun _ _ _ h => h) (Or.inl ⟨by rfl, ?tky4016⟩) hH4008 ?tkr4016
  case tky4016 => (intro w' hSw; clear hSw; go_simp; try with_reducible rfl)
  try simp only [Act.put, zqa, zqb, zqc]
  refine wpAnyH_take (i := 16) (oi := { dst := some 22, op := Op.load 3 (Operand.tmp 21), type := 3, pos := _, after := _, guard := some (10, false) }) (v := ?tkv4017) rfl (by kernel_rfl) (by kernel_rfl) (by kernel_rfl) (fun _ _ _ h => h) (Or.inl ⟨by rfl, ?tky4017⟩) hH4008 ?tkr4017
  case tky4017 => (intro w' hSw; have z0 := HFX.out _ hSw; clear hSw; go_simp; try with_reducible rfl)
  try simp only [Act.put, zqa, zqb, zqc]
  refine wpAnyH_take (i := 18) (oi := { dst := some 24, op := Op.load 55 (Operand.tmp 2), type := 55, pos := _, after := _, guard := some (10, false) }) (v := ?tkv4018) rfl (by kernel_rfl) (by kernel_rfl) (by kernel_rfl) (fun _ _ _ h => h) (Or.inl ⟨by rfl, ?tky4018⟩) hH4008 ?tkr4018
  case tky4018 => (intro w' hSw; have z0 := HFX.out _ hSw; clear hSw; go_simp; try with_reducible rfl)
  try simp only [Act.put, zqa, zqb, zqc]
  refine wpAnyH_take (i := 19) (oi := { dst := some 25, op := Op.nilCheck (Operand.tmp 24), type := 0, pos := _, after := _, guard := some (10, false) }) (v := ?tkv4019) rfl (by kernel_rfl) (by kernel_rfl) (by kernel_rfl) (fun _ _ _ h => h) (Or.inl ⟨by rfl, ?tky4019⟩) hH4008 ?tkr4019
  case tky4019 => (intro w' hSw; clear hSw; go_simp; try with_reducible rfl)
  try simp only [Act.put, zqa, zqb, zqc]
  refine wpAnyH_take (i := 20) (oi := { dst := some 26, op := Op.fieldAddr 104 (Operand.tmp 25) 0, type := 0, pos := _, after := _, guard := some (10, false) }) (v := ?tkv4020) rfl (by kernel_rfl) (by kernel_rfl) (by kernel_rfl) (fun _ _ _ h => h) (Or.inl ⟨by rfl, ?tky4020⟩) hH4008 ?tkr4020
  case tky4020 => (intro w' hSw; clear hSw; go_simp; try with_reducible rfl)
  try simp only [Act.put, zqa, zqb, zqc]
  refine wpAnyH_take (i := 21) (oi := { dst := some 27, op := Op.fieldAddr 76 (Operand.tmp 26) 1, type := 0, pos := _, after := _, guard := some (10, false) }) (v := ?tkv4021) rfl (by kernel_rfl) (by kernel_rfl) (by kernel_rfl) (fun _ _ _ h => h) (Or.inl ⟨by rfl, ?tky4021⟩) hH4008 ?tkr4021
  case tky4021 => (intro w' hSw; clear hSw; go_simp; try with_reducible rfl)
  try simp only [Act.put, zqa, zqb, zqc]
  refine wpAnyH_take (i := 22) (oi := { dst := some 28, op := Op.load 3 (Operand.tmp 27), type := 3, pos := _, after := _, guard := some (10, false) }) (v := ?tkv4022) rfl (by kernel_rfl) (by kernel_rfl) (by kernel_rfl) (fun _ _ _ h => h) (Or.inl ⟨by rfl, ?tky4022⟩) hH4008 ?tkr4022
  case tky4022 => (intro w' hSw; have z0 := HFX.out _ hSw; clear hSw; go_simp; try with_reducible rfl)
  try simp only [Act.put, zqa, zqb, zqc]
  refine wpAnyH_ready (rs := [17]) (by kernel_rfl) (by simp) ?_
  refine AllReadyH.cons (o := { dst := some 23, op := Op.call { callee := Callee.value (Operand.func 66), args := #[Operand.tmp 17, Operand.tmp 22], argTypes := #[3, 3] }, type := 3, pos := _, after := _, guard := some (10, false) }) rfl (fun K hK => ?_) AllReadyH.nil
  go_simp
  refine (count_any len (Z : Int) wn4008).mono ?_
  rw [HCN.out]
  rintro e' wx4023 ⟨rfl, rfl⟩
  go_simp
  have hS4023 : Below (w0.heap.size) w0 wn4008 := hH4008
  refine hK.out _ _ hS4023 (fun hH4023 => ?_)
  have hH4023 : Below (w0.heap.size) w0 wn4008 := hH4023
  clear hK K hS4023
  try simp only [Act.put, zqa, zqb, zqc]
  refine wpAnyH_take (i := 23) (oi := { dst := some 29, op := Op.binOp BinOp.neq 3 (Operand.tmp 23) (Operand.tmp 28) 3, type := 4, pos := _, after := _, guard := some (10, false) }) (v := ?tkv4024) rfl (by kernel_rfl) (by kernel_rfl) (by kernel_rfl) (fun _ _ _ h => h) (Or.inl ⟨by rfl, ?tky4024⟩) hH4023 ?tkr4024
  case tky4024 => (intro w' hSw; clear hSw; go_simp; try with_reducible rfl)
  try simp only [Act.put, zqa, zqb, zqc]
  refine wpAnyH_take (i := 24) (oi := { dst := some 30, op := Op.pick (Operand.tmp 16) (Operand.const (Value.bool true)) (Operand.tmp 29), type := 4, pos := _, after := _, guard := none }) (v := ?tkv4025) rfl (by kernel_rfl) (by kernel_rfl) (by kernel_rfl) (fun _ _ _ h => h) (Or.inl ⟨by rfl, ?tky4025⟩) hH4023 ?tkr4025
  case tky4025 => (intro w' hSw; clear hSw; go_simp; try with_reducible rfl)
  try simp only [Act.put, zqa, zqb, zqc]
  refine wpAnyH_done (by kernel_rfl) ?_ _
  refine NoPanic.normal ?_
  have HBC : Hid (Below w.heap.size w wn4008) := Lib.hid (HB0.out.trans ((hH4023).mono HB0.out.size))
  obtain ⟨wc, rfl⟩ : ∃ x : World, x = wn4008 := ⟨_, rfl⟩
  have hgc := (HBC.out.block gd HLT.out).trans HC.out
  have hbxc : wc.heap[w.heap.size]? = some (.cells #[.pointer (some ⟨gd, 0, none⟩)] 55 (0, 0)) := ((hH4023).block w.heap.size (by have := HZ0.out; omega)).trans HX0.out
  obtain ⟨w1, hw1, hz1, hm1, hbt1⟩ := dm_start hgc hbxc HNB.out
  have hmat1 : IsMat w1 FM gm (kk + P) Z M := (HM.out.below HBC.out).keep fun q hq hl => hbt1.block q hl (HFM.out q hq).2
  have hone := (img1_any s kk P Z gm t gd w.heap.size FM M w1 (fun q hq => (HFM.out q hq).2) (fun q _ hl => hl) hmat1 HFU.out HI.out HK.out HP.out (by have := (Array.getElem?_eq_some_iff.1 hgc).1; omega) hm1).mono (R' := fun e w2 => e = .returned (.tuple #[]) ∧ Hid (OnceD s kk P Z gm t gd M w1 w2) ∧ Hid (Locked gd 6 104 w2)) (by
   rintro e w2 ⟨rfl, q⟩
   refine ⟨rfl, q, ?_⟩
   obtain ⟨gl, c, es, q1, _⟩ := q.out
   exact Lib.hid ⟨_, q1, rfl, rfl⟩)
  have HDO := Lib.hid (do_gen gd 6 104 _ (.pointer (some ⟨w.heap.size, 0, none⟩)) (OnceD s kk P Z gm t gd M w1) wc hgc rfl rfl (by rw [hw1]; exact hone))
  have HBX : Hid (wc.cell? ⟨w.heap.size, 0, none⟩ = some (.pointer (some ⟨gd, 0, none⟩))) := Lib.hid (dcell_at hbxc rfl)
  have HEND : Hid (∀ w2, OnceD s kk P Z gm t gd M w1 w2 → DoneQ F gd s kk P Z gm M t w ((w2.drew.setCell ⟨gd, 6, none⟩ (.int .u32 1)).setCell ⟨gd, 7, none⟩ (.int .i32 0))) := Lib.hid fun w2 h2 => once_doneQ HGD.out HFM.out HM.out HFU.out HBC.out HLT.out hbt1 hz1 hm1 HNB.out h2
  have hbx := HBX.out
  clear hgc hbxc hw1 hz1 hm1 hbt1 hmat1 hone
  go_wp2_with fail
  refine HDO.out.mono ?_
  rintro e w3 ⟨rfl, w2, hR, rfl⟩
  have HQ := Lib.hid (HEND.out w2 hR.out)
  clear HEND hR HDO hbx HBX
  generalize ((w2.drew.setCell ⟨gd, 6, none⟩ (.int .u32 1)).setCell ⟨gd, 7, none⟩ (.int .i32 0)) = wq at *
  have hbq := HQ.out.box
  obtain ⟨gl, c9, es, hcq, hpq, heq, hk9, hm9, hdq, hfq, hxq⟩ := HQ.out
  have hcv : wq.cell? ⟨gd, 9, none⟩ = some (.slice (some ⟨gl, 0, none⟩) kk c9) := dcell_at hcq rfl
  have HJ := Lib.hid (join_at gl wq.heap.size kk c9 es wq hpq.rows.1 (by have := HK.out; omega) (Nat.le_refl _) hpq.rows.2 len)
  rw [joinF_ls, heq] at HJ
  have HD := Lib.hid hdq
  have HF := Lib.hid hfq
  have HS9 : Hid (w.heap.size ≤ wq.heap.size) := Lib.hid hfq.size
  clear hcq hpq heq hk9 hm9 hdq hfq HQ
  go_wp2_with fail
  refine HJ.out.mono ?_
  rintro e w9 ⟨A9, n9, d9, rfl, hn9, ho9, hb9⟩
  have HO9 := Lib.hid (own_base ho9 HS9.out)
  have HN9 := Lib.hid hn9
  have HD9 := Lib.hid ((HD.out.below hb9).more (F' := fun b => F b ∨ (w.heap.size ≤ b ∧ b < w9.heap.size)) fun b hb => hb.elim Or.inl fun h => Or.inr ⟨h.1, Nat.lt_of_lt_of_le h.2 hb9.size⟩)
  have HF9 := Lib.hid (HF.out.trans (Fr.of_below (F := F) hb9) (fun _ _ h => h))
  clear HJ ho9 hn9 hb9 hcv hxq
  go_wp2_with fail
  refine bodyPost_ret (v := .tuple #[.slice A9 n9 d9, .bool true]) (by simp [results, Tryz.results76, go_sem]) rfl ?_
  exact ⟨A9, n9, d9, rfl, HN9, HO9, HD9, HF9⟩
 ·have hl := (Array.getElem?_eq_some_iff.1 hc).1
  have HM := Lib.hid hm
  have HX0 := Lib.hid (heap_alloc_new w (.cells #[.pointer (some ⟨gd, 0, none⟩)] 55))
  have HB0 : Hid (Below w.heap.size w (w.alloc (.cells #[.pointer (some ⟨gd, 0, none⟩)] 55))) := (Below.refl _ _).alloc (Nat.le_refl _) _
  have hz0 : (w.alloc (.cells #[.pointer (some ⟨gd, 0, none⟩)] 55)).heap.size = w.heap.size + 1 := by simp
  have HZ0 := Lib.hid hz0
  clear hz0
  have HFX : Hid (∀ W, Below (w.alloc (.cells #[.pointer (some ⟨gd, 0, none⟩)] 55)).heap.size (w.alloc (.cells #[.pointer (some ⟨gd, 0, none⟩)] 55)) W → W.cell? ⟨w.heap.size, 0, none⟩ = some (.pointer (some ⟨gd, 0, none⟩)) ∧ ((W.cell? ⟨gd, 0, none⟩ = some (.int .u32 (s : Int)) ∧ W.cell? ⟨gd, 1, none⟩ = some (.int .i64 (kk : Int)) ∧ W.cell? ⟨gd, 2, none⟩ = some (.int .i64 (P : Int)) ∧ W.cell? ⟨gd, 3, none⟩ = some (.int .i64 (Z : Int))) ∧ W.cell? ⟨gd, 4, none⟩ = some (.pointer (some ⟨gm, 0, none⟩)))) := Lib.hid fun W hW => ⟨dcell_at ((hW.block w.heap.size (by have := HZ0.out; omega)).trans HX0.out) rfl, dcells (((HB0.out.trans (hW.mono HB0.out.size)).block gd hl).trans hc)⟩
  have HC := Lib.hid hc
  have HLT := Lib.hid hl
  have HDQ : Hid (∀ wq, Below w.heap.size w wq → wq.heap[w.heap.size]? = some (.cells #[.pointer (some ⟨gd, 0, none⟩)] 55 (0, 0)) → DoneQ F gd s kk P Z gm M t w wq) := Lib.hid fun wq hb hbx =>
   ⟨gl, c, es, (hb.block gd hl).trans hc, pcs_lt (hp.keep fun b _ hlt => hb.block b hlt) fun b hb _ => ⟨Or.inl hb.1, hb.2⟩, he, hcc.1, hcc.2, (hD.below hb).more (fun b hb => Or.inl hb), Fr.of_below hb, dcell_at hbx rfl⟩
  clear hgd hFM hm hc hl hfu hi hK hP hcn hD hp he hcc
  go_enter Tryz.func76, Tryz.ntmps76
  go_upto_region 1 with fail
  generalize (w.alloc (.cells #[.pointer (some ⟨gd, 0, none⟩)] 55)) = w0 at *
  refine wp_region_noPanic ?_
  refine wp_region_held_drew (S := (fun W => Below (w0.heap.size) w0 W)) (by kernel_rfl) (Below.refl _ _).drew (fun hH0 => ?_)
  have hH0 : Below (w0.heap.size) w0 w0.drew := hH0
  generalize w0.drew = wd5000 at *
  refine wpAnyH_take (i := 0) (oi := { dst := some 6, op := Op.load 55 (Operand.tmp 2), type := 55, pos := _, after := _, guard := none }) (v := ?tkv5001) rfl (by kernel_rfl) (by kernel_rfl) (by kernel_rfl) (fun _ _ _ h => h) (Or.inl ⟨by rfl, ?tky5001⟩) hH0 ?tkr5001
  case tky5001 => (intro w' hSw; have z0 := HFX.out _ hSw; clear hSw; go_simp; try with_reducible rfl)
  try simp only [Act.put, zqa, zqb, zqc]
  refine wpAnyH_take (i := 1) (oi := { dst := some 7, op := Op.binOp BinOp.eql 55 (Operand.tmp 6) (Operand.const (Value.pointer none)) 55, type := 4, pos := _, after := _, guard := none }) (v := ?tkv5002) rfl (by kernel_rfl) (by kernel_rfl) (by kernel_rfl) (fun _ _ _ h => h) (Or.inl ⟨by rfl, ?tky5002⟩) hH0 ?tkr5002
  case tky5002 => (intro w' hSw; clear hSw; go_simp; try with_reducible rfl)
  try simp only [Act.put, zqa, zqb, zqc]
  refine wpAnyH_take (i := 2) (oi := { dst := some 8, op := Op.move (Operand.tmp 7), type := 4, pos := _, after := _, guard := none }) (v := ?tkv5003) rfl (by kernel_rfl) (by kernel_rfl) (by kernel_rfl) (fun _ _ _ h => h) (Or.inl ⟨by rfl, ?tky5003⟩) hH0 ?tkr5003
  case tky5003 => (intro w' hSw; clear hSw; go_simp; try with_reducible rfl)
  try simp only [Act.put, zqa, zqb, zqc]
  refine wpAnyH_take (i := 3) (oi := { dst := some 9, op := Op.load 55 (Operand.tmp 2), type := 55, pos := _, after := _, guard := some (2, false) }) (v := ?tkv5004) rfl (by kernel_rfl) (by kernel_rfl) (by kernel_rfl) (fun _ _ _ h => h) (Or.inl ⟨by rfl, ?tky5004⟩) hH0 ?tkr5004
  case tky5004 => (intro w' hSw; have z0 := HFX.out _ hSw; clear hSw; go_simp; try with_reducible rfl)
  try simp only [Act.put, zqa, zqb, zqc]
  refine wpAnyH_take (i := 4) (oi := { dst := some 10, op := Op.nilCheck (Operand.tmp 9), type := 0, pos := _, after := _, guard := some (2, false) }) (v := ?tkv5005) rfl (by kernel_rfl) (by kernel_rfl) (by kernel_rfl) (fun _ _ _ h => h) (Or.inl ⟨by rfl, ?tky5005⟩) hH0 ?tkr5005
  case tky5005 => (intro w' hSw; clear hSw; go_simp; try with_reducible rfl)
  try simp only [Act.put, zqa, zqb, zqc]
  refine wpAnyH_take (i := 5) (oi := { dst := some 11, op := Op.fieldAddr 104 (Operand.tmp 10) 1, type := 0, pos := _, after := _, guard := some (2, false) }) (v := ?tkv5006) rfl (by kernel_rfl) (by kernel_rfl) (by kernel_rfl) (fun _ _ _ h => h) (Or.inl ⟨by rfl, ?tky5006⟩) hH0 ?tkr5006
  case tky5006 => (intro w' hSw; clear hSw; go_simp; try with_reducible rfl)
  try simp only [Act.put, zqa, zqb, zqc]
  refine wpAnyH_take (i := 6) (oi := { dst := some 12, op := Op.load 87 (Operand.tmp 11), type := 87, pos := _, after := _, guard := some (2, false) }) (v := ?tkv5007) rfl (by kernel_rfl) (by kernel_rfl) (by kernel_rfl) (fun _ _ _ h => h) (Or.inl ⟨by rfl, ?tky5007⟩) hH0 ?tkr5007
  case tky5007 => (intro w' hSw; have z0 := HFX.out _ hSw; clear hSw; go_simp; try with_reducible rfl)
  try simp only [Act.put, zqa, zqb, zqc]
  refine wpAnyH_ready (rs := [7]) (by kernel_rfl) (by simp) ?_
  refine AllReadyH.cons (o := { dst := some 13, op := Op.call { callee := Callee.value (Operand.func 114), args := #[Operand.tmp 12], argTypes := #[87] }, type := 4, pos := _, after := _, guard := some (2, false) }) rfl (fun K hK => ?_) AllReadyH.nil
  go_simp
  have hfu5008 := fullI (HM.out.below ((HB0.out.trans ((hH0).mono HB0.out.size))))
  rw [HFL.out] at hfu5008
  refine hfu5008.mono ?_
  clear hfu5008
  rintro e' wn5008 ⟨rfl, hb5008'⟩
  have hb5008 := hb5008'.out
  clear hb5008'
  go_simp
  have hS5008 : Below (w0.heap.size) w0 wn5008 := (hH0).trans (hb5008.mono (hH0).size)
  refine hK.out _ _ hS5008 (fun hH5008 => ?_)
  have hH5008 : Below (w0.heap.size) w0 wn5008 := hH5008
  clear hK K hS5008
  try simp only [Act.put, zqa, zqb, zqc]
  refine wpAnyH_take (i := 8) (oi := { dst := some 14, op := Op.unOp UnOp.not 4 (Operand.tmp 13), type := 4, pos := _, after := _, guard := some (2, false) }) (v := ?tkv5009) rfl (by kernel_rfl) (by kernel_rfl) (by kernel_rfl) (fun _ _ _ h => h) (Or.inl ⟨by rfl, ?tky5009⟩) hH5008 ?tkr5009
  case tky5009 => (intro w' hSw; clear hSw; go_simp; try with_reducible rfl)
  try simp only [Act.put, zqa, zqb, zqc]
  refine wpAnyH_take (i := 9) (oi := { dst := some 15, op := Op.pick (Operand.tmp 8) (Operand.const (Value.bool true)) (Operand.tmp 14), type := 4, pos := _, after := _, guard := none }) (v := ?tkv5010) rfl (by kernel_rfl) (by kernel_rfl) (by kernel_rfl) (fun _ _ _ h => h) (Or.inl ⟨by rfl, ?tky5010⟩) hH5008 ?tkr5010
  case tky5010 => (intro w' hSw; clear hSw; go_simp; try with_reducible rfl)
  try simp only [Act.put, zqa, zqb, zqc]
  refine wpAnyH_take (i := 10) (oi := { dst := some 16, op := Op.move (Operand.tmp 15), type := 4, pos := _, after := _, guard := none }) (v := ?tkv5011) rfl (by kernel_rfl) (by kernel_rfl) (by kernel_rfl) (fun _ _ _ h => h) (Or.inl ⟨by rfl, ?tky5011⟩) hH5008 ?tkr5011
  case tky5011 => (intro w' hSw; clear hSw; go_simp; try with_reducible rfl)
  try simp only [Act.put, zqa, zqb, zqc]
  refine wpAnyH_take (i := 11) (oi := { dst := some 17, op := Op.move (Operand.tmp 1), type := 3, pos := _, after := _, guard := some (10, false) }) (v := ?tkv5012) rfl (by kernel_rfl) (by kernel_rfl) (by kernel_rfl) (fun _ _ _ h => h) (Or.inl ⟨by rfl, ?tky5012⟩) hH5008 ?tkr5012
  case tky5012 => (intro w' hSw; clear hSw; go_simp; try with_reducible rfl)
  try simp only [Act.put, zqa, zqb, zqc]
  refine wpAnyH_take (i := 12) (oi := { dst := some 18, op := Op.load 55 (Operand.tmp 2), type := 55, pos := _, after := _, guard := some (10, false) }) (v := ?tkv5013) rfl (by kernel_rfl) (by kernel_rfl) (by kernel_rfl) (fun _ _ _ h => h) (Or.inl ⟨by rfl, ?tky5013⟩) hH5008 ?tkr5013
  case tky5013 => (intro w' hSw; have z0 := HFX.out _ hSw; clear hSw; go_simp; try with_reducible rfl)
  try simp only [Act.put, zqa, zqb, zqc]
  refine wpAnyH_take (i := 13) (oi := { dst := some 19, op := Op.nilCheck (Operand.tmp 18), type := 0, pos := _, after := _, guard := some (10, false) }) (v := ?tkv5014) rfl (by kernel_rfl) (by kernel_rfl) (by kernel_rfl) (fun _ _ _ h => h) (Or.inl ⟨by rfl, ?tky5014⟩) hH5008 ?tkr5014
  case tky5014 => (intro w' hSw; clear hSw; go_simp; try with_reducible rfl)
  try simp only [Act.put, zqa, zqb, zqc]
  refine wpAnyH_take (i := 14) (oi := { dst := some 20, op := Op.fieldAddr 104 (Operand.tmp 19) 0, type := 0, pos := _, after := _, guard := some (10, false) }) (v := ?tkv5015) rfl (by kernel_rfl) (by kernel_rfl) (by kernel_rfl) (fun _ _ _ h => h) (Or.inl ⟨by rfl, ?tky5015⟩) hH5008 ?tkr5015
  case tky5015 => (intro w' hSw; clear hSw; go_simp; try with_reducible rfl)
  try simp only [Act.put, zqa, zqb, zqc]
  refine wpAnyH_take (i := 15) (oi := { dst := some 21, op := Op.fieldAddr 76 (Operand.tmp 20) 3, type := 0, pos := _, after := _, guard := some (10, false) }) (v := ?tkv5016) rfl (by kernel_rfl) (by kernel_rfl) (by kernel_rfl) (fun _ _ _ h => h) (Or.inl ⟨by rfl, ?tky5016⟩) hH5008 ?tkr5016
  case tky5016 => (intro w' hSw; clear hSw; go_simp; try with_reducible rfl)
  try simp only [Act.put, zqa, zqb, zqc]
  refine wpAnyH_take (i := 16) (oi := { dst := some 22, op := Op.load 3 (Operand.tmp 21), type := 3, pos := _, after := _, guard := some (10, false) }) (v := ?tkv5017) rfl (by kernel_rfl) (by kernel_rfl) (by kernel_rfl) (fun _ _ _ h => h) (Or.inl ⟨by rfl, ?tky5017⟩) hH5008 ?tkr5017
  case tky5017 => (intro w' hSw; have z0 := HFX.out _ hSw; clear hSw; go_simp; try with_reducible rfl)
  try simp only [Act.put, zqa, zqb, zqc]
  refine wpAnyH_take (i := 18) (oi := { dst := some 24, op := Op.load 55 (Operand.tmp 2), type := 55, pos := _, after := _, guard := some (10, false) }) (v := ?tkv5018) rfl (by kernel_rfl) (by kernel_rfl) (by kernel_rfl) (fun _ _ _ h => h) (Or.inl ⟨by rfl, ?tky5018⟩) hH5008 ?tkr5018
  case tky5018 => (intro w' hSw; have z0 := HFX.out _ hSw; clear hSw; go_simp; try with_reducible rfl)
  try simp only [Act.put, zqa, zqb, zqc]
  refine wpAnyH_take (i := 19) (oi := { dst := some 25, op := Op.nilCheck (Operand.tmp 24), type := 0, pos := _, after := _, guard := some (10, false) }) (v := ?tkv5019) rfl (by kernel_rfl) (by kernel_rfl) (by kernel_rfl) (fun _ _ _ h => h) (Or.inl ⟨by rfl, ?tky5019⟩) hH5008 ?tkr5019
  case tky5019 => (intro w' hSw; clear hSw; go_simp; try with_reducible rfl)
  try simp only [Act.put, zqa, zqb, zqc]
  refine wpAnyH_take (i := 20) (oi := { dst := some 26, op := Op.fieldAddr 104 (Operand.tmp 25) 0, type := 0, pos := _, after := _, guard := some (10, false) }) (v := ?tkv5020) rfl (by kernel_rfl) (by kernel_rfl) (by kernel_rfl) (fun _ _ _ h => h) (Or.inl ⟨by rfl, ?tky5020⟩) hH5008 ?tkr5020
  case tky5020 => (intro w' hSw; clear hSw; go_simp; try with_reducible rfl)
  try simp only [Act.put, zqa, zqb, zqc]
  refine wpAnyH_take (i := 21) (oi := { dst := some 27, op := Op.fieldAddr 76 (Operand.tmp 26) 1, type := 0, pos := _, after := _, guard := some (10, false) }) (v := ?tkv5021) rfl (by kernel_rfl) (by kernel_rfl) (by kernel_rfl) (fun _ _ _ h => h) (Or.inl ⟨by rfl, ?tky5021⟩) hH5008 ?tkr5021
  case tky5021 => (intro w' hSw; clear hSw; go_simp; try with_reducible rfl)
  try simp only [Act.put, zqa, zqb, zqc]
  refine wpAnyH_take (i := 22) (oi := { dst := some 28, op := Op.load 3 (Operand.tmp 27), type := 3, pos := _, after := _, guard := some (10, false) }) (v := ?tkv5022) rfl (by kernel_rfl) (by kernel_rfl) (by kernel_rfl) (fun _ _ _ h => h) (Or.inl ⟨by rfl, ?tky5022⟩) hH5008 ?tkr5022
  case tky5022 => (intro w' hSw; have z0 := HFX.out _ hSw; clear hSw; go_simp; try with_reducible rfl)
  try simp only [Act.put, zqa, zqb, zqc]
  refine wpAnyH_ready (rs := [17]) (by kernel_rfl) (by simp) ?_
  refine AllReadyH.cons (o := { dst := some 23, op := Op.call { callee := Callee.value (Operand.func 66), args := #[Operand.tmp 17, Operand.tmp 22], argTypes := #[3, 3] }, type := 3, pos := _, after := _, guard := some (10, false) }) rfl (fun K hK => ?_) AllReadyH.nil
  go_simp
  refine (count_any len (Z : Int) wn5008).mono ?_
  rw [HCN.out]
  rintro e' wx5023 ⟨rfl, rfl⟩
  go_simp
  have hS5023 : Below (w0.heap.size) w0 wn5008 := hH5008
  refine hK.out _ _ hS5023 (fun hH5023 => ?_)
  have hH5023 : Below (w0.heap.size) w0 wn5008 := hH5023
  clear hK K hS5023
  try simp only [Act.put, zqa, zqb, zqc]
  refine wpAnyH_take (i := 23) (oi := { dst := some 29, op := Op.binOp BinOp.neq 3 (Operand.tmp 23) (Operand.tmp 28) 3, type := 4, pos := _, after := _, guard := some (10, false) }) (v := ?tkv5024) rfl (by kernel_rfl) (by kernel_rfl) (by kernel_rfl) (fun _ _ _ h => h) (Or.inl ⟨by rfl, ?tky5024⟩) hH5023 ?tkr5024
  case tky5024 => (intro w' hSw; clear hSw; go_simp; try with_reducible rfl)
  try simp only [Act.put, zqa, zqb, zqc]
  refine wpAnyH_take (i := 24) (oi := { dst := some 30, op := Op.pick (Operand.tmp 16) (Operand.const (Value.bool true)) (Operand.tmp 29), type := 4, pos := _, after := _, guard := none }) (v := ?tkv5025) rfl (by kernel_rfl) (by kernel_rfl) (by kernel_rfl) (fun _ _ _ h => h) (Or.inl ⟨by rfl, ?tky5025⟩) hH5023 ?tkr5025
  case tky5025 => (intro w' hSw; clear hSw; go_simp; try with_reducible rfl)
  try simp only [Act.put, zqa, zqb, zqc]
  refine wpAnyH_done (by kernel_rfl) ?_ _
  refine NoPanic.normal ?_
  have HBC : Hid (Below w.heap.size w wn5008) := Lib.hid (HB0.out.trans ((hH5023).mono HB0.out.size))
  have HBX : Hid (wn5008.heap[w.heap.size]? = some (.cells #[.pointer (some ⟨gd, 0, none⟩)] 55 (0, 0))) := Lib.hid (((hH5023).block w.heap.size (by have := HZ0.out; omega)).trans HX0.out)
  obtain ⟨wq, rfl⟩ : ∃ x : World, x = wn5008 := ⟨_, rfl⟩
  have HDO := Lib.hid (do_done_gen gd 6 104 _ (.func (.func 116) #[] #[.pointer (some ⟨w.heap.size, 0, none⟩)]) wq ((HBC.out.block gd HLT.out).trans HC.out) rfl)
  have HQ : Hid (DoneQ F gd s kk P Z gm M t w wq) := Lib.hid (HDQ.out wq HBC.out HBX.out)
  have hbq := HQ.out.box
  go_wp2_with fail
  refine HDO.out.mono ?_
  rintro e w3 ⟨rfl, rfl⟩
  clear HDO
  obtain ⟨gl, c9, es, hcq, hpq, heq, hk9, hm9, hdq, hfq, hxq⟩ := HQ.out
  have hcv : wq.cell? ⟨gd, 9, none⟩ = some (.slice (some ⟨gl, 0, none⟩) kk c9) := dcell_at hcq rfl
  have HJ := Lib.hid (join_at gl wq.heap.size kk c9 es wq hpq.rows.1 (by have := HK.out; omega) (Nat.le_refl _) hpq.rows.2 len)
  rw [joinF_ls, heq] at HJ
  have HD := Lib.hid hdq
  have HF := Lib.hid hfq
  have HS9 : Hid (w.heap.size ≤ wq.heap.size) := Lib.hid hfq.size
  clear hcq hpq heq hk9 hm9 hdq hfq HQ
  go_wp2_with fail
  refine HJ.out.mono ?_
  rintro e w9 ⟨A9, n9, d9, rfl, hn9, ho9, hb9⟩
  have HO9 := Lib.hid (own_base ho9 HS9.out)
  have HN9 := Lib.hid hn9
  have HD9 := Lib.hid ((HD.out.below hb9).more (F' := fun b => F b ∨ (w.heap.size ≤ b ∧ b < w9.heap.size)) fun b hb => hb.elim Or.inl fun h => Or.inr ⟨h.1, Nat.lt_of_lt_of_le h.2 hb9.size⟩)
  have HF9 := Lib.hid (HF.out.trans (Fr.of_below (F := F) hb9) (fun _ _ h => h))
  clear HJ ho9 hn9 hb9 hcv hxq
  go_wp2_with fail
  refine bodyPost_ret (v := .tuple #[.slice A9 n9 d9, .bool true]) (by simp [results, Tryz.results76, go_sem]) rfl ?_
  exact ⟨A9, n9, d9, rfl, HN9, HO9, HD9, HF9⟩
end Go.Proofs.YtmncpgfdpcckpaaGreatDoor.Dc
