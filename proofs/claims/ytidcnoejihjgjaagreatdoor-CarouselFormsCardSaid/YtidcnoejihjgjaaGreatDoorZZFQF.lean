/- packet.add, Bytes, Same: by contracts. -/
import Derived.WalkSpells
import Derived.WalkLawsBesides
import Derived.Deep.DeepCutAuto
import Derived.Deep.RegionHeld3
import Derived.Test.YtidcnoejihjgjaaGreatDoorZAQF
import Derived.Test.YtidcnoejihjgjaaGreatDoorCarFiQF
import Derived.Test.YtidcnoejihjgjaaGreatDoorZZBQF
import Derived.Test.YtidcnoejihjgjaaGreatDoorZWQF
import Derived.Test.YtidcnoejihjgjaaGreatDoorZSQF
namespace Go.Proofs.YtidcnoejihjgjaaGreatDoor
open Go.RowKit

def AddPost (base m : Nat) (xs : List Value) (s : Nat) (w : World) (e : Ending) (w' : World) : Prop :=
  ∃ A c m', e = .returned (.slice A m' c) ∧ Hid (m' = m + 4) ∧ w'.ownsRow base 5 1 (.slice A m' c) m' (xs ++ bv (CrcM.four s)) ∧ Below base w w'
set_option maxRecDepth 100000 in
set_option maxHeartbeats 400000 in
theorem add4_any (s : Nat) (hs : s < 4294967296) (base m c : Nat) (A : Option Addr) (xs : List Value) (w : World) (hown : w.ownsRow base 5 1 (.slice A m c) m xs) (hb : base ≤ w.heap.size) (hm : m ≤ 1000000000) :
    Calls Tryz.prog 75 #[.slice A m c, .int .u32 (s : Int)] w (AddPost base m xs s w) := by
  obtain ⟨i0, hi, hz0, hz1, hz2⟩ := info_parts Tryz.info5
  have hs' : (s : Int) ≤ 4294967295 := by omega
  have HF := Lib.hid (four_cells s hs)
  clear hs
  go_enter Tryz.func75, Tryz.ntmps75
  go_wp2_with (at_builtin; refine wpList_app rfl (.tmp 5) (.tmp 17) 22 rfl base 5 i0 (.int .u8 0) 1 Tryz.underlying22 hi hz0 hz1 hz2 rfl _ m xs rfl (hown.alloc _) _ _ 4 4 _ rfl (row_new w _ _ _) (by intro u hu; simp at hu; rcases hu with rfl | rfl | rfl | rfl <;> rfl) (by unfold maxLen; omega) (by omega) (by simp; omega) ?_; intro v2 w2 hown2 hg2 hat2)
  obtain ⟨A2, c2, rfl, _⟩ := own_slice hown2
  go_ret
  have hb2 := below_app ((Below.refl base w).alloc hb _) (by simp; omega) (hown.alloc _) (Nat.le_refl _) hg2
  refine ⟨A2, c2, m + 4, rfl, rfl, ?_, hb2⟩
  rw [← HF.out]
  exact hown2
theorem box3 {w : World} {g : Nat} {x y z : Value} {t : TypeId} (h : w.heap[g]? = some (.cells #[x, y, z] t (0, 0))) : w.cell? ⟨g, 0, none⟩ = some x ∧ w.cell? ⟨g, 1, none⟩ = some y ∧ w.cell? ⟨g, 2, none⟩ = some z := by
  refine ⟨?_, ?_, ?_⟩ <;> rw [cell_of_row w g _ _ t (0, 0) h] <;> rfl
def symB (s id : Nat) (l : List UInt8) : List UInt8 := CrcM.four s ++ CrcM.four id ++ l
def symV (s id : Nat) (A : Option Addr) (n c : Nat) : Value := .agg #[.int .u32 (s : Int), .int .u32 (id : Int), .slice A n c]
def BytesOk (l : List UInt8) (w : World) (e : Ending) (w' : World) : Prop :=
  ∃ A n cap, e = .returned (.tuple #[.slice A n cap, .int .i64 0]) ∧ Hid (n = l.length) ∧ w'.ownsRow w.heap.size 5 1 (.slice A n cap) n (bv l) ∧ Below w.heap.size w w'
set_option maxRecDepth 100000 in
set_option maxHeartbeats 400000 in
theorem bytes_ok (s id B n cap : Nat) (A : Option Addr) (l : List UInt8) (w : World) (hs : s < 4294967296) (hid : id < 4294967296) (hl : Row w B A n (bv l)) (h1 : 1 ≤ n) (h16 : n ≤ 16) (hB : B ≤ w.heap.size) :
    Calls Tryz.prog 49 #[.agg #[.int .u32 (s : Int), .int .u32 (id : Int), .slice A n cap]] w (BytesOk (symB s id l) w) := by
  obtain ⟨i0, hi, hz0, hz1, hz2⟩ := info_parts Tryz.info5
  have HS := Lib.hid hs
  have HI := Lib.hid hid
  have HB := Lib.hid hl.blen
  clear hs hid
  go_enter Tryz.func49, Tryz.ntmps49
  go_upto_region 4 with (at_make; refine wpList_make_own _ rfl _ _ 22 rfl (w.heap.size + 1) 5 i0 (.int .u8 0) 1 Tryz.underlying22 hi hz0 hz1 .i64 .i64 _ (8 + n) rfl rfl (by omega) (by rw [hz2]; omega) (by unfold maxLen; omega) (by simp) ?_; intro w1 hown1 hg1)
  have hb1 : Below (w.heap.size + 1) (w.alloc _) w1 := (Below.refl _ _).grown hg1 (by simp) (by intro g h; nomatch h)
  have hbox1 := (hb1.block w.heap.size (by omega)).trans (heap_alloc_new w _)
  have hs1 : w.heap.size + 1 ≤ w1.heap.size := by have := hb1.size; simpa using this
  have hown1' : w1.ownsRow (w.heap.size + 1) 5 1 (.slice (some { block := w.heap.size + 1, off := 0 }) 0 (8 + n)) 0 [] := by simpa using hown1
  obtain ⟨y0, y1, y2⟩ := box3 hbox1
  have HBX1 := Lib.hid hbox1
  clear hbox1
  go_wp2_with fail
  refine (add4_any s HS.out (w.heap.size + 1) 0 (8 + n) _ [] w1 hown1' hs1 (by omega)).mono ?_
  rintro e w2 ⟨A2, c2, m2, rfl, hm2, hown2, hb2⟩
  have hm2' : m2 ≤ 4 := by rw [hm2.out]; omega
  have hs2 := hb2.size
  clear y0 y1 y2
  obtain ⟨y0, y1, y2⟩ := box3 ((hb2.block w.heap.size (by omega)).trans HBX1.out)
  go_wp2_with fail
  refine (add4_any id HI.out (w.heap.size + 1) m2 c2 A2 _ w2 hown2 (by omega) (by omega)).mono ?_
  rintro e w3 ⟨A3, c3, m3, rfl, hm3, hown3, hb3⟩
  have hm3' : m3 ≤ 8 := by rw [hm3.out]; omega
  have hs3 := hb3.size
  clear y0 y1 y2
  obtain ⟨y0, y1, y2⟩ := box3 ((hb3.block w.heap.size (by omega)).trans ((hb2.block w.heap.size (by omega)).trans HBX1.out))
  have hb3' : Below w.heap.size w w3 := (((Below.refl _ _).alloc (Nat.le_refl _) _).trans (hb1.mono (by omega))).trans ((hb2.mono (by omega)).trans (hb3.mono (by omega)))
  go_wp2_with (at_builtin; refine wpList_app rfl (.tmp 28) (.tmp 30) 22 rfl (w.heap.size + 1) 5 i0 (.int .u8 0) 1 Tryz.underlying22 hi hz0 hz1 hz2 rfl _ m3 _ rfl hown3 B A n cap (bv l) rfl (hl.below (hb3'.mono hB)) (bv_one l) (by unfold maxLen; omega) (by omega) (by omega) ?_; intro v4 w4 hown4 hg4 hat4)
  obtain ⟨A4, c4, rfl, _⟩ := own_slice hown4
  go_ret2
  have hb4 := below_app hb3' (by omega) hown3 (by omega) hg4
  refine ⟨A4, m3 + n, c4, rfl, ?_, ?_, hb4⟩
  · show _ = (symB s id l).length
    rw [hm3.out, hm2.out]
    simp [symB, CrcM.four, HB.out]; omega
  · have := own_base hown4 (show w.heap.size ≤ w.heap.size + 1 by omega)
    unfold symB
    rw [bv_append, bv_append]
    simpa using this
end Go.Proofs.YtidcnoejihjgjaaGreatDoor
namespace Go.Proofs.YtidcnoejihjgjaaGreatDoor.Car
open Go.RowKit
open VecM RdM Vc Sp Pc El Cd Dc
open FrM (frame)
def Look2 (B : Dc.Obj) (g s gc : Nat) : Prop := ∀ W F, B W F → W.cell? ⟨g, 1, none⟩ = some (.int .u32 (s : Int)) ∧ W.cell? ⟨g, 11, none⟩ = some (.pointer (some ⟨gc, 0, none⟩))
def CarS (w0 : World) (g s gc : Nat) (W : World) : Prop := Below w0.heap.size w0 W ∧ W.cell? ⟨g, 1, none⟩ = some (.int .u32 (s : Int)) ∧ W.cell? ⟨g, 11, none⟩ = some (.pointer (some ⟨gc, 0, none⟩))
theorem carS_drew {w0 W : World} {g s gc : Nat} (h : CarS w0 g s gc W) : CarS w0 g s gc W.drew := ⟨h.1.drew, h.2⟩
theorem carS_of {A X B : Dc.Obj} {w0 W : World} {g s gc : Nat} (hl : Look2 B g s gc) (S : Sep3 A X B w0 W) : CarS w0 g s gc W := by
  have hb := S.b
  obtain ⟨F, G, H, _, _, c, _⟩ := S
  exact ⟨hb, hl W H c⟩
set_option maxRecDepth 100000 in
set_option maxHeartbeats 3200000 in
theorem csym_any {B : Dc.Obj} {s kk P Z gc g id : Nat} {img : List UInt8} {w0 w : World} (S : Sep3 noObj (headO s kk P Z img gc) B w0 w) (kB : Keeps B) (hlook : Look2 B g s gc) (hs : s < 4294967296) (hid : id < 4294967296) (hK : 1 ≤ kk ∧ kk ≤ 64) (hP : P ≤ 16) (hZ : 1 ≤ Z ∧ Z ≤ 16) (hc : BlkM.count (img.length : Int) (Z : Int) = kk) (ht : DTab w0) :
    Calls Tryz.prog 19 #[.pointer (some ⟨g, 0, none⟩), .int .u32 (id : Int)] w fun e w' => ∃ A m c, e = .returned (.slice A m c) ∧ Hid (m = (frame 2 (symB s id (symX s kk P Z img id))).length) ∧ Hid (Sep3 noObj (headO s kk P Z img gc) (pairO B (allO A (bv (frame 2 (symB s id (symX s kk P Z img id)))))) w0 w') := by
  have HKB := Lib.hid kB
  have HLK := Lib.hid hlook
  have HS := Lib.hid hs
  have HID := Lib.hid hid
  have HK := Lib.hid hK
  have HP := Lib.hid hP
  have HZ := Lib.hid hZ
  have HC := Lib.hid hc
  have HDT := Lib.hid ht
  have HSP := Lib.hid S
  have HN80 : Hid (kk + P ≤ 80) := Lib.hid (by omega)
  have hcs := carS_of hlook S
  have HEM := Lib.hid (Car.empty_no g gc w hcs.2.2)
  have HCS : Hid (∀ W, CarS w0 g s gc W → W.cell? ⟨g, 1, none⟩ = some (.int .u32 (s : Int)) ∧ W.cell? ⟨g, 11, none⟩ = some (.pointer (some ⟨gc, 0, none⟩))) := Lib.hid (fun W h => h.2)
  clear S kB hlook hs hid hK hP hZ hc ht hcs
  go_enter Tryz.func19, Tryz.ntmps19
  go_wp2_with fail
  refine HEM.out.mono ?_
  rintro e w1 ⟨rfl, rfl⟩
  clear HEM
  go_upto_region 3 with fail
  have SRD : Hid (Sep3 noObj (headO s kk P Z img gc) B w0 w.drew) := Lib.hid (HSP.out.below keeps_no (keeps_head _ _ _ _ _ _) HKB.out (Below.refl _ _).drew)
  refine wp_region_noPanic ?_
  refine wp_region_held_drew (S := (fun W => CarS w0 g s gc W)) (by kernel_rfl) (carS_drew (carS_of HLK.out HSP.out)) (fun hH0 => ?_)
  have hH0 : CarS w0 g s gc w.drew := hH0
  generalize w.drew = wd9000 at *
  refine wpAnyH_take (i := 0) (oi := _) (v := ?tkv9001) rfl (by kernel_rfl) (by kernel_rfl) (by kernel_rfl) (fun _ _ _ h => h) (Or.inl ⟨by rfl, ?tky9001⟩) hH0 ?tkr9001
  case tky9001 => (intro w' hSw; clear hSw; go_simp; try with_reducible rfl)
  try simp only [Act.put, List.setIfInBounds_toArray, List.set_cons_zero, List.set_cons_succ]
  refine wpAnyH_take (i := 1) (oi := _) (v := ?tkv9002) rfl (by kernel_rfl) (by kernel_rfl) (by kernel_rfl) (fun _ _ _ h => h) (Or.inl ⟨by rfl, ?tky9002⟩) hH0 ?tkr9002
  case tky9002 => (intro w' hSw; clear hSw; go_simp; try with_reducible rfl)
  try simp only [Act.put, List.setIfInBounds_toArray, List.set_cons_zero, List.set_cons_succ]
  refine wpAnyH_take (i := 2) (oi := _) (v := ?tkv9003) rfl (by kernel_rfl) (by kernel_rfl) (by kernel_rfl) (fun _ _ _ h => h) (Or.inl ⟨by rfl, ?tky9003⟩) hH0 ?tkr9003
  case tky9003 => (intro w' hSw; clear hSw; go_simp; try with_reducible rfl)
  try simp only [Act.put, List.setIfInBounds_toArray, List.set_cons_zero, List.set_cons_succ]
  refine wpAnyH_take (i := 3) (oi := _) (v := ?tkv9004) rfl (by kernel_rfl) (by kernel_rfl) (by kernel_rfl) (fun _ _ _ h => h) (Or.inl ⟨by rfl, ?tky9004⟩) hH0 ?tkr9004
  case tky9004 => (intro w' hSw; clear hSw; go_simp; try with_reducible rfl)
  try simp only [Act.put, List.setIfInBounds_toArray, List.set_cons_zero, List.set_cons_succ]
  refine wpAnyH_take (i := 4) (oi := _) (v := ?tkv9005) rfl (by kernel_rfl) (by kernel_rfl) (by kernel_rfl) (fun _ _ _ h => h) (Or.inl ⟨by rfl, ?tky9005⟩) hH0 ?tkr9005
  case tky9005 => (intro w' hSw; have z0 := HCS.out _ hSw; clear hSw; go_simp; try with_reducible rfl)
  try simp only [Act.put, List.setIfInBounds_toArray, List.set_cons_zero, List.set_cons_succ]
  refine wpAnyH_take (i := 5) (oi := _) (v := ?tkv9006) rfl (by kernel_rfl) (by kernel_rfl) (by kernel_rfl) (fun _ _ _ h => h) (Or.inl ⟨by rfl, ?tky9006⟩) hH0 ?tkr9006
  case tky9006 => (intro w' hSw; clear hSw; go_simp; try with_reducible rfl)
  try simp only [Act.put, List.setIfInBounds_toArray, List.set_cons_zero, List.set_cons_succ]
  refine wpAnyH_take (i := 6) (oi := _) (v := ?tkv9007) rfl (by kernel_rfl) (by kernel_rfl) (by kernel_rfl) (fun _ _ _ h => h) (Or.inl ⟨by rfl, ?tky9007⟩) hH0 ?tkr9007
  case tky9007 => (intro w' hSw; clear hSw; go_simp; try with_reducible rfl)
  try simp only [Act.put, List.setIfInBounds_toArray, List.set_cons_zero, List.set_cons_succ]
  refine wpAnyH_take (i := 7) (oi := _) (v := ?tkv9008) rfl (by kernel_rfl) (by kernel_rfl) (by kernel_rfl) (fun _ _ _ h => h) (Or.inl ⟨by rfl, ?tky9008⟩) hH0 ?tkr9008
  case tky9008 => (intro w' hSw; clear hSw; go_simp; try with_reducible rfl)
  try simp only [Act.put, List.setIfInBounds_toArray, List.set_cons_zero, List.set_cons_succ]
  refine wpAnyH_take (i := 8) (oi := _) (v := ?tkv9009) rfl (by kernel_rfl) (by kernel_rfl) (by kernel_rfl) (fun _ _ _ h => h) (Or.inl ⟨by rfl, ?tky9009⟩) hH0 ?tkr9009
  case tky9009 => (intro w' hSw; clear hSw; go_simp; try with_reducible rfl)
  try simp only [Act.put, List.setIfInBounds_toArray, List.set_cons_zero, List.set_cons_succ]
  refine wpAnyH_take (i := 9) (oi := _) (v := ?tkv9010) rfl (by kernel_rfl) (by kernel_rfl) (by kernel_rfl) (fun _ _ _ h => h) (Or.inl ⟨by rfl, ?tky9010⟩) hH0 ?tkr9010
  case tky9010 => (intro w' hSw; have z0 := HCS.out _ hSw; clear hSw; go_simp; try with_reducible rfl)
  try simp only [Act.put, List.setIfInBounds_toArray, List.set_cons_zero, List.set_cons_succ]
  refine wpAnyH_take (i := 10) (oi := _) (v := ?tkv9011) rfl (by kernel_rfl) (by kernel_rfl) (by kernel_rfl) (fun _ _ _ h => h) (Or.inl ⟨by rfl, ?tky9011⟩) hH0 ?tkr9011
  case tky9011 => (intro w' hSw; clear hSw; go_simp; try with_reducible rfl)
  try simp only [Act.put, List.setIfInBounds_toArray, List.set_cons_zero, List.set_cons_succ]
  refine wpAnyH_ready (rs := [11]) (by kernel_rfl) (by simp) ?_
  refine AllReadyH.cons (o := _) rfl (fun K hK => ?_) AllReadyH.nil
  go_simp
  refine (sym2 (id := id) SRD.out.swap keeps_no HKB.out HS.out HID.out HK.out HP.out HZ.out HC.out HDT.out).mono ?_
  rintro e' wn9012 ⟨A9012, c9012, rfl, hr9012, hs9012⟩
  have SS9012 : Hid (Sep3 noObj (headO s kk P Z img gc) B w0 wn9012) := Lib.hid hs9012.out.swap
  have HR9012 := Lib.hid hr9012.out
  clear hr9012 hs9012
  go_simp
  have hS9012 : CarS w0 g s gc wn9012 := carS_of HLK.out SS9012.out
  refine hK.out _ _ hS9012 (fun hH9012 => ?_)
  have hH9012 : CarS w0 g s gc wn9012 := hH9012
  clear hK K hS9012
  try simp only [Act.put, List.setIfInBounds_toArray, List.set_cons_zero, List.set_cons_succ]
  refine wpAnyH_take (i := 12) (oi := _) (v := ?tkv9013) rfl (by kernel_rfl) (by kernel_rfl) (by kernel_rfl) (fun _ _ _ h => h) (Or.inl ⟨by rfl, ?tky9013⟩) hH9012 ?tkr9013
  case tky9013 => (intro w' hSw; clear hSw; go_simp; try with_reducible rfl)
  try simp only [Act.put, List.setIfInBounds_toArray, List.set_cons_zero, List.set_cons_succ]
  refine wpAnyH_ready (rs := [13]) (by kernel_rfl) (by simp) ?_
  refine AllReadyH.cons (o := _) rfl (fun K hK => ?_) AllReadyH.nil
  go_simp
  have hpk9014 := bytes_ok s id wn9012.heap.size Z c9012 A9012 (symX s kk P Z img id) wn9012 HS.out HID.out HR9012.out HZ.out.1 HZ.out.2 (Nat.le_refl _)
  unfold symV at hpk9014
  refine hpk9014.mono ?_
  clear hpk9014
  rintro e' wn9014 ⟨A9014, n9014, c9014, rfl, hn9014, ho9014, hb9014⟩
  have SS9014 : Hid (Sep3 noObj (headO s kk P Z img gc) B w0 wn9014) := Lib.hid (SS9012.out.below keeps_no (keeps_head _ _ _ _ _ _) HKB.out hb9014)
  have HR9014 := Lib.hid (rowP_own ho9014)
  have HN9014 := Lib.hid hn9014
  clear ho9014 hb9014
  go_simp
  have hS9014 : CarS w0 g s gc wn9014 := carS_of HLK.out SS9014.out
  refine hK.out _ _ hS9014 (fun hH9014 => ?_)
  have hH9014 : CarS w0 g s gc wn9014 := hH9014
  clear hK K hS9014
  try simp only [Act.put, List.setIfInBounds_toArray, List.set_cons_zero, List.set_cons_succ]
  refine wpAnyH_take (i := 14) (oi := _) (v := ?tkv9015) rfl (by kernel_rfl) (by kernel_rfl) (by kernel_rfl) (fun _ _ _ h => h) (Or.inl ⟨by rfl, ?tky9015⟩) hH9014 ?tkr9015
  case tky9015 => (intro w' hSw; clear hSw; go_simp; try with_reducible rfl)
  try simp only [Act.put, List.setIfInBounds_toArray, List.set_cons_zero, List.set_cons_succ]
  refine wpAnyH_take (i := 15) (oi := _) (v := ?tkv9016) rfl (by kernel_rfl) (by kernel_rfl) (by kernel_rfl) (fun _ _ _ h => h) (Or.inl ⟨by rfl, ?tky9016⟩) hH9014 ?tkr9016
  case tky9016 => (intro w' hSw; clear hSw; go_simp; try with_reducible rfl)
  try simp only [Act.put, List.setIfInBounds_toArray, List.set_cons_zero, List.set_cons_succ]
  refine wpAnyH_take (i := 16) (oi := _) (v := ?tkv9017) rfl (by kernel_rfl) (by kernel_rfl) (by kernel_rfl) (fun _ _ _ h => h) (Or.inl ⟨by rfl, ?tky9017⟩) hH9014 ?tkr9017
  case tky9017 => (intro w' hSw; clear hSw; go_simp; try with_reducible rfl)
  try simp only [Act.put, List.setIfInBounds_toArray, List.set_cons_zero, List.set_cons_succ]
  refine wpAnyH_take (i := 17) (oi := _) (v := ?tkv9018) rfl (by kernel_rfl) (by kernel_rfl) (by kernel_rfl) (fun _ _ _ h => h) (Or.inl ⟨by rfl, ?tky9018⟩) hH9014 ?tkr9018
  case tky9018 => (intro w' hSw; clear hSw; go_simp; try with_reducible rfl)
  try simp only [Act.put, List.setIfInBounds_toArray, List.set_cons_zero, List.set_cons_succ]
  refine wpAnyH_take (i := 18) (oi := _) (v := ?tkv9019) rfl (by kernel_rfl) (by kernel_rfl) (by kernel_rfl) (fun _ _ _ h => h) (Or.inl ⟨by rfl, ?tky9019⟩) hH9014 ?tkr9019
  case tky9019 => (intro w' hSw; clear hSw; go_simp; try with_reducible rfl)
  try simp only [Act.put, List.setIfInBounds_toArray, List.set_cons_zero, List.set_cons_succ]
  refine wpAnyH_done (by kernel_rfl) ?_ _
  refine NoPanic.normal ?_
  have HLEN : Hid (n9014 = (symB s id (symX s kk P Z img id)).length) := Lib.hid HN9014.out
  have hn24 : n9014 ≤ 291 := by
    rw [HLEN.out]
    unfold symB
    rw [List.length_append, List.length_append, show (CrcM.four s).length = 4 from rfl, show (CrcM.four id).length = 4 from rfl, symX_length HK.out.1 HN80.out]
    have := HZ.out
    omega
  have HCW := Lib.hid (cwrap_any 2 2 rfl n9014 c9014 A9014 (symB s id (symX s kk P Z img id)) wn9014 HR9014.out.row hn24)
  go_wp2_with fail
  refine HCW.out.mono ?_
  rintro e w9 ⟨A9, n9, c9, rfl, hn9, ho9, hb9⟩
  have S9 : Hid (Sep3 noObj (headO s kk P Z img gc) (pairO B (allO A9 (bv (frame 2 (symB s id (symX s kk P Z img id)))))) w0 w9) := Lib.hid (SS9014.out.create4 keeps_no (keeps_head _ _ _ _ _ _) HKB.out hb9 (all_own ho9))
  have N9 := Lib.hid hn9.out
  clear HCW ho9 hb9 hn9
  go_wp2_with fail
  go_ret
  exact ⟨A9, n9, c9, rfl, N9, S9⟩
end Go.Proofs.YtidcnoejihjgjaaGreatDoor.Car
namespace Go.Proofs.YtidcnoejihjgjaaGreatDoor
open Go.RowKit
def R7Ok (l : List UInt8) (w : World) (e : Ending) (w' : World) : Prop :=
  ∃ A n cap, e = .returned (.tuple #[.slice A n cap, .int .i64 0]) ∧ w'.ownsRow w.heap.size 5 1 (.slice A n cap) n (bv l) ∧ Below w.heap.size w w'
abbrev SBox (w0 w : World) (s i : Nat) (A : Option Addr) (n c : Nat) (W : World) : Prop :=
  Below w0.heap.size w0 W ∧ W.cell? ⟨w.heap.size, 0, none⟩ = some (.int .u32 (s : Int)) ∧ W.cell? ⟨w.heap.size, 1, none⟩ = some (.int .u32 (i : Int)) ∧ W.cell? ⟨w.heap.size, 2, none⟩ = some (.slice A n c)
theorem sbx_keep {w0 w : World} {s i : Nat} {A : Option Addr} {n c : Nat} {t : TypeId} (hx : w0.heap[w.heap.size]? = some (.cells #[.int .u32 (s : Int), .int .u32 (i : Int), .slice A n c] t (0, 0))) (hs : w.heap.size < w0.heap.size) (W : World) (hW : Below w0.heap.size w0 W) : SBox w0 w s i A n c W :=
  ⟨hW, box3 ((hW.block _ hs).trans hx)⟩
theorem sbx_next {w0 w W W' : World} {s i : Nat} {A : Option Addr} {n c : Nat} (h : SBox w0 w s i A n c W) (hb : Below W.heap.size W W') : Below w0.heap.size w0 W' := h.1.trans (hb.mono h.1.size)
theorem sbx_below {w0 w W : World} {s i : Nat} {A : Option Addr} {n c : Nat} (h : SBox w0 w s i A n c W) : Below w0.heap.size w0 W := h.1
theorem sbx_drew {w0 w W : World} {s i : Nat} {A : Option Addr} {n c : Nat} (h : SBox w0 w s i A n c W) : Below w0.heap.size w0 W.drew := h.1.drew
theorem sbx_alloc {w0 w W : World} {s i : Nat} {A : Option Addr} {n c : Nat} (h : SBox w0 w s i A n c W) (o : Obj) : Below w0.heap.size w0 (W.alloc o) := h.1.alloc h.1.size o
theorem join3 (n1 c1 : Nat) (A1 : Option Addr) (l1 : List UInt8) (n2 c2 : Nat) (A2 : Option Addr) (l2 : List UInt8) (n3 c3 : Nat) (A3 : Option Addr) (l3 : List UInt8) (W : World) (h1 : Row W W.heap.size A1 n1 (bv l1)) (h2 : Row W W.heap.size A2 n2 (bv l2)) (h3 : Row W W.heap.size A3 n3 (bv l3)) (ha : n1 ≤ 1000 ∧ n2 ≤ 1000 ∧ n3 ≤ 1000) :
    Calls Tryz.prog 35 #[.slice (some ⟨W.heap.size, 0, none⟩) 3 3] (W.alloc (.cells #[.slice A1 n1 c1, .slice A2 n2 c2, .slice A3 n3 c3] 22)) (FreshBytes (W.alloc (.cells #[.slice A1 n1 c1, .slice A2 n2 c2, .slice A3 n3 c3] 22)).heap.size (l1 ++ l2 ++ l3) (W.alloc (.cells #[.slice A1 n1 c1, .slice A2 n2 c2, .slice A3 n3 c3] 22))) := by
  have hr := row_new W #[.slice A1 n1 c1, .slice A2 n2 c2, .slice A3 n3 c3] 22 (0, 0)
  have hf : flat [⟨A1, n1, c1, l1⟩, ⟨A2, n2, c2, l2⟩, ⟨A3, n3, c3, l3⟩] = l1 ++ l2 ++ l3 := by simp [flat]
  have := join_any (W.heap.size + 1) 3 3 (some ⟨W.heap.size, 0, none⟩) [⟨A1, n1, c1, l1⟩, ⟨A2, n2, c2, l2⟩, ⟨A3, n3, c3, l3⟩] (W.alloc (.cells #[.slice A1 n1 c1, .slice A2 n2 c2, .slice A3 n3 c3] 22))
    ⟨hr, by
      intro r hr
      simp at hr
      rcases hr with rfl | rfl | rfl
      · exact (h1.alloc (Nat.le_refl _) _).more (by omega)
      · exact (h2.alloc (Nat.le_refl _) _).more (by omega)
      · exact (h3.alloc (Nat.le_refl _) _).more (by omega)⟩ (by omega) (by rw [hf, List.length_append, List.length_append, h1.blen, h2.blen, h3.blen]; omega) (by simp)
  rwa [hf] at this
set_option maxRecDepth 100000 in
set_option maxHeartbeats 800000 in
theorem r7bytes_ok (s id B n cap : Nat) (A : Option Addr) (l : List UInt8) (w : World) (hs : s < 4294967296) (hid : id < 4294967296) (hl : Row w B A n (bv l)) (h1 : 1 ≤ n) (h16 : n ≤ 16) (hB : B ≤ w.heap.size) :
    Calls Tryz.prog 12 #[.agg #[.int .u32 (s : Int), .int .u32 (id : Int), .slice A n cap]] w (R7Ok (symB s id l) w) := by
  have HS := Lib.hid hs
  have HI := Lib.hid hid
  clear hs hid
  have hb0 : Below w.heap.size w (w.alloc (.cells #[.int .u32 (s : Int), .int .u32 (id : Int), .slice A n cap] 44)) := (Below.refl _ _).alloc (Nat.le_refl _) _
  have hx := heap_alloc_new w (.cells #[.int .u32 (s : Int), .int .u32 (id : Int), .slice A n cap] 44)
  have hz : (w.alloc (.cells #[.int .u32 (s : Int), .int .u32 (id : Int), .slice A n cap] 44)).heap.size = w.heap.size + 1 := by simp
  go_enter Tryz.func12, Tryz.ntmps12
  go_wp2_with fail
  generalize (w.alloc (.cells #[.int .u32 (s : Int), .int .u32 (id : Int), .slice A n cap] 44)) = w0 at *
  have hkeep := Lib.hid (sbx_keep hx (by omega))
  clear hx
  go_region_held3 (SBox w0 w s id A n cap)
    (first | exact hkeep.out _ (sbx_next (by assumption) (by assumption)) | exact hkeep.out _ (Below.refl _ _).drew | exact hkeep.out _ (Below.refl _ _) | exact hkeep.out _ (sbx_alloc (by assumption) _) | exact hkeep.out _ (sbx_drew (by assumption)))
    (first
      | (go_at_call 29; (with_reducible refine (four_any s HS.out _).mono ?_); rintro e w1 ⟨A5, n5, c5, rfl, hn5, hown5, hb5⟩)
      | (go_at_call 29; (with_reducible refine (four_any id HI.out _).mono ?_); rintro e w2 ⟨A6, n6, c6, rfl, hn6, hown6, hb6⟩)
      | (go_at_call 35; have hq5 : n5 = 4 := hn5.out; have hq6 : n6 = 4 := hn6.out; have hbw2 := hb0.trans ((sbx_below (w0 := w0) (w := w) (s := s) (i := id) (A := A) (n := n) (c := cap) (hkeep.out _ ((Below.refl w0.heap.size w0).drew.trans (hb5.trans (hb6.mono hb5.size))))).mono hb0.size); refine (join3 n5 c5 A5 (CrcM.four s) n6 c6 A6 (CrcM.four id) n cap A l w2 (((Row.of_own hown5).below hb6).more hb6.size) (Row.of_own hown6) ((hl.below (hbw2.mono hB)).more (Nat.le_trans hB hbw2.size)) ⟨by omega, by omega, by omega⟩).mono ?_; rintro e w7 ⟨A7, n7, c7, rfl, hn7, hown7, hb7⟩))
  have hend := hb0.trans ((sbx_below (by assumption : SBox w0 w s id A n cap w7)).mono hb0.size)
  go_wp2
  go_ret2
  exact ⟨A7, n7, c7, rfl, own_base hown7 (by have := hbw2.size; simp; omega), hend⟩
end Go.Proofs.YtidcnoejihjgjaaGreatDoor
