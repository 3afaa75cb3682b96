/- carousel's First: by contract. -/
import Derived.Test.YtidcnoejihjgjaaGreatDoorCarNewQF
import Derived.Test.YtidcnoejihjgjaaGreatDoorZZBQF
import Derived.Test.YtidcnoejihjgjaaGreatDoorZZDQF
import Derived.Test.YtidcnoejihjgjaaGreatDoorZTQF
namespace Go.Proofs.YtidcnoejihjgjaaGreatDoor.Car
open Go.RowKit
open VecM RdM Vc Sp Pc El Cd Dc
open FrM (frame)
theorem cwrap_any (k : UInt8) (kind : Int) (hk : kind = (k.toNat : Int)) (n c : Nat) (A : Option Addr) (l : List UInt8) (w : World) (hl : Row w w.heap.size A n (bv l)) (hn : n ≤ 291) :
    Calls Tryz.prog 48 #[.int .i64 kind, .slice A n c] w (FreshBytes w.heap.size (frame k l) w) := by
  have HW := Lib.hid (wrap_at kind k hk w.heap.size n c A l w hl hn (Nat.le_refl _))
  clear hl hn hk
  go_enter Tryz.func48, Tryz.ntmps48
  go_wp2_with fail
  refine HW.out.mono ?_
  rintro e w1 ⟨A1, n1, c1, rfl, hn1, ho1, hb1⟩
  go_wp2_with fail
  go_ret
  exact ⟨A1, n1, c1, rfl, hn1, ho1, hb1⟩
theorem isMan_of {w : World} {s v n zz p : Nat} {Ah : Option Addr} {ch : Nat} {img : List UInt8} (h : RowP w (fun _ => True) Ah 32 (bv (Sha.D img))) : IsMan w (fun _ => True) #[.int .u32 (s : Int), .int .u32 (v : Int), .int .i64 (n : Int), .int .i64 (zz : Int), .int .i64 (p : Int), .slice Ah 32 ch] ⟨s, v, n, zz, p, Sha.D img⟩ := by
  refine ⟨Ah, ch, ?_, ?_⟩
  · unfold LMan.cells
    show _ = #[Value.int .u32 (s : Int), .int .u32 (v : Int), .int .i64 (n : Int), .int .i64 (zz : Int), .int .i64 (p : Int), .slice Ah (Sha.D img).length ch]
    rw [Sha.D_length]
  · show RowP w _ Ah (Sha.D img).length _
    rw [Sha.D_length]; exact h
theorem bx7 {w : World} {q : Nat} {t : TypeId} {cs : Array Value} (h : w.heap[q]? = some (.cells cs t (0, 0))) : ∀ (j : Nat) (u : Value), cs[j]? = some u → w.cell? ⟨q, j, none⟩ = some u := fun j u hu => by
  rw [cell_of_row w q j _ t (0, 0) h]; exact hu
def firstL (key : List UInt8) (s v n zz p : Nat) (img : List UInt8) : List UInt8 := frame 1 ((⟨s, v, n, zz, p, Sha.D img⟩ : LMan).bytes ++ Sh.tagOf key (⟨s, v, n, zz, p, Sha.D img⟩ : LMan).bytes)
set_option maxRecDepth 100000 in
set_option maxHeartbeats 3200000 in
theorem first_car {g s v n zz p kk gc nk ck ch : Nat} {Ak Ah : Option Addr} {key img : List UInt8} {w : World} (ht : Sh.Tab w) (hx : w.heap[g]? = some (.cells (carC Ak nk ck s v (n : Int) (zz : Int) (p : Int) Ah ch kk gc) 62 (0, 0))) (hk : Row w w.heap.size Ak nk (bv key)) (hh : Row w w.heap.size Ah 32 (bv (Sha.D img))) (hnk : nk ≤ 64) (hs : s < 4294967296) (hv : v < 4294967296)
    (hm : manB (n : Int) (zz : Int) (p : Int) 32 = true) :
    Calls Tryz.prog 18 #[.pointer (some ⟨g, 0, none⟩)] w (FreshBytes w.heap.size (firstL key s v n zz p img) w) := by
  have hlt : g < w.heap.size := (Array.getElem?_eq_some_iff.1 hx).1
  have HEM := Lib.hid (Car.empty_no g gc w (bx7 hx 11 _ rfl))
  have HFX : Hid (∀ W, Below w.heap.size w W → W.cell? ⟨g, 0, none⟩ = some (.slice Ak nk ck) ∧ W.cell? ⟨g, 1, none⟩ = some (.int .u32 (s : Int)) ∧ W.cell? ⟨g, 2, none⟩ = some (.int .u32 (v : Int)) ∧ W.cell? ⟨g, 3, none⟩ = some (.int .i64 (n : Int)) ∧ W.cell? ⟨g, 4, none⟩ = some (.int .i64 (zz : Int)) ∧ W.cell? ⟨g, 5, none⟩ = some (.int .i64 (p : Int)) ∧ W.cell? ⟨g, 6, none⟩ = some (.slice Ah 32 ch)) := Lib.hid (fun W hW => by
    have h2 := bx7 ((hW.block g hlt).trans hx)
    exact ⟨h2 0 _ rfl, h2 1 _ rfl, h2 2 _ rfl, h2 3 _ rfl, h2 4 _ rfl, h2 5 _ rfl, h2 6 _ rfl⟩)
  have hmay : (⟨s, v, n, zz, p, Sha.D img⟩ : LMan).may = true := by
    show manB (n : Int) (zz : Int) (p : Int) (Sha.D img).length = true
    rw [Sha.D_length]; exact hm
  have HMB : Hid (∀ W, Below w.heap.size w W → Calls Tryz.prog 47 #[.slice Ak nk ck, .agg #[.int .u32 (s : Int), .int .u32 (v : Int), .int .i64 (n : Int), .int .i64 (zz : Int), .int .i64 (p : Int), .slice Ah 32 ch]] W (MBytesOk ((⟨s, v, n, zz, p, Sha.D img⟩ : LMan).bytes ++ Sh.tagOf key (⟨s, v, n, zz, p, Sha.D img⟩ : LMan).bytes) W)) := Lib.hid (fun W hW =>
    manBytes_yes Ak nk ck key (ht.below hW ht.1) ((hk.below hW).more hW.size) (by omega) (isMan_of (RowP.of_row ((hh.below hW).more hW.size))) hmay ⟨hs, hv⟩)
  clear hx hk hh hm hmay ht
  unfold firstL
  obtain ⟨ML, hML⟩ : ∃ l, (⟨s, v, n, zz, p, Sha.D img⟩ : LMan).bytes ++ Sh.tagOf key (⟨s, v, n, zz, p, Sha.D img⟩ : LMan).bytes = l := ⟨_, rfl⟩
  rw [hML] at HMB ⊢
  clear hML
  go_enter Tryz.func18, Tryz.ntmps18
  go_wp2_with fail
  refine HEM.out.mono ?_
  rintro e w1 ⟨rfl, rfl⟩
  clear HEM
  go_upto_region 3 with fail
  refine wp_region_noPanic ?_
  refine wp_region_held_drew (S := (fun W => Below w.heap.size w W)) (by kernel_rfl) ((Below.refl w.heap.size w).drew) (fun hH0 => ?_)
  have hH0 : Below w.heap.size w w.drew := hH0
  generalize w.drew = wd6000 at *
  refine wpAnyH_take (i := 0) (oi := _) (v := ?tkv6001) rfl (by kernel_rfl) (by kernel_rfl) (by kernel_rfl) (fun _ _ _ h => h) (Or.inl ⟨by rfl, ?tky6001⟩) hH0 ?tkr6001
  case tky6001 => (intro w' hSw; clear hSw; go_simp; try with_reducible rfl)
  try simp only [Act.put, List.setIfInBounds_toArray, List.set_cons_zero, List.set_cons_succ]
  refine wpAnyH_take (i := 1) (oi := _) (v := ?tkv6002) rfl (by kernel_rfl) (by kernel_rfl) (by kernel_rfl) (fun _ _ _ h => h) (Or.inl ⟨by rfl, ?tky6002⟩) hH0 ?tkr6002
  case tky6002 => (intro w' hSw; clear hSw; go_simp; try with_reducible rfl)
  try simp only [Act.put, List.setIfInBounds_toArray, List.set_cons_zero, List.set_cons_succ]
  refine wpAnyH_take (i := 2) (oi := _) (v := ?tkv6003) rfl (by kernel_rfl) (by kernel_rfl) (by kernel_rfl) (fun _ _ _ h => h) (Or.inl ⟨by rfl, ?tky6003⟩) hH0 ?tkr6003
  case tky6003 => (intro w' hSw; clear hSw; go_simp; try with_reducible rfl)
  try simp only [Act.put, List.setIfInBounds_toArray, List.set_cons_zero, List.set_cons_succ]
  refine wpAnyH_take (i := 3) (oi := _) (v := ?tkv6004) rfl (by kernel_rfl) (by kernel_rfl) (by kernel_rfl) (fun _ _ _ h => h) (Or.inl ⟨by rfl, ?tky6004⟩) hH0 ?tkr6004
  case tky6004 => (intro w' hSw; have z0 := HFX.out _ hSw; clear hSw; go_simp; try with_reducible rfl)
  try simp only [Act.put, List.setIfInBounds_toArray, List.set_cons_zero, List.set_cons_succ]
  refine wpAnyH_take (i := 4) (oi := _) (v := ?tkv6005) rfl (by kernel_rfl) (by kernel_rfl) (by kernel_rfl) (fun _ _ _ h => h) (Or.inl ⟨by rfl, ?tky6005⟩) hH0 ?tkr6005
  case tky6005 => (intro w' hSw; clear hSw; go_simp; try with_reducible rfl)
  try simp only [Act.put, List.setIfInBounds_toArray, List.set_cons_zero, List.set_cons_succ]
  refine wpAnyH_take (i := 5) (oi := _) (v := ?tkv6006) rfl (by kernel_rfl) (by kernel_rfl) (by kernel_rfl) (fun _ _ _ h => h) (Or.inl ⟨by rfl, ?tky6006⟩) hH0 ?tkr6006
  case tky6006 => (intro w' hSw; clear hSw; go_simp; try with_reducible rfl)
  try simp only [Act.put, List.setIfInBounds_toArray, List.set_cons_zero, List.set_cons_succ]
  refine wpAnyH_take (i := 6) (oi := _) (v := ?tkv6007) rfl (by kernel_rfl) (by kernel_rfl) (by kernel_rfl) (fun _ _ _ h => h) (Or.inl ⟨by rfl, ?tky6007⟩) hH0 ?tkr6007
  case tky6007 => (intro w' hSw; clear hSw; go_simp; try with_reducible rfl)
  try simp only [Act.put, List.setIfInBounds_toArray, List.set_cons_zero, List.set_cons_succ]
  refine wpAnyH_take (i := 7) (oi := _) (v := ?tkv6008) rfl (by kernel_rfl) (by kernel_rfl) (by kernel_rfl) (fun _ _ _ h => h) (Or.inl ⟨by rfl, ?tky6008⟩) hH0 ?tkr6008
  case tky6008 => (intro w' hSw; have z0 := HFX.out _ hSw; clear hSw; go_simp; try with_reducible rfl)
  try simp only [Act.put, List.setIfInBounds_toArray, List.set_cons_zero, List.set_cons_succ]
  refine wpAnyH_ready (rs := [8]) (by kernel_rfl) (by simp) ?_
  refine AllReadyH.cons (o := _) rfl (fun K hK => ?_) AllReadyH.nil
  go_simp
  refine (HMB.out wd6000 (hH0)).mono ?_
  rintro e' wn6009 ⟨A6009, c6009, rfl, ho6009, hbb6009⟩
  have hb6009 := hbb6009.out
  have HO6009 := Lib.hid ho6009.out
  clear ho6009 hbb6009
  go_simp
  have hS6009 : Below w.heap.size w wn6009 := (hH0).trans (hb6009.mono (hH0).size)
  refine hK.out _ _ hS6009 (fun hH6009 => ?_)
  have hH6009 : Below w.heap.size w wn6009 := hH6009
  clear hK K hS6009
  try simp only [Act.put, List.setIfInBounds_toArray, List.set_cons_zero, List.set_cons_succ]
  refine wpAnyH_take (i := 9) (oi := _) (v := ?tkv6010) rfl (by kernel_rfl) (by kernel_rfl) (by kernel_rfl) (fun _ _ _ h => h) (Or.inl ⟨by rfl, ?tky6010⟩) hH6009 ?tkr6010
  case tky6010 => (intro w' hSw; clear hSw; go_simp; try with_reducible rfl)
  try simp only [Act.put, List.setIfInBounds_toArray, List.set_cons_zero, List.set_cons_succ]
  refine wpAnyH_take (i := 10) (oi := _) (v := ?tkv6011) rfl (by kernel_rfl) (by kernel_rfl) (by kernel_rfl) (fun _ _ _ h => h) (Or.inl ⟨by rfl, ?tky6011⟩) hH6009 ?tkr6011
  case tky6011 => (intro w' hSw; clear hSw; go_simp; try with_reducible rfl)
  try simp only [Act.put, List.setIfInBounds_toArray, List.set_cons_zero, List.set_cons_succ]
  refine wpAnyH_take (i := 11) (oi := _) (v := ?tkv6012) rfl (by kernel_rfl) (by kernel_rfl) (by kernel_rfl) (fun _ _ _ h => h) (Or.inl ⟨by rfl, ?tky6012⟩) hH6009 ?tkr6012
  case tky6012 => (intro w' hSw; clear hSw; go_simp; try with_reducible rfl)
  try simp only [Act.put, List.setIfInBounds_toArray, List.set_cons_zero, List.set_cons_succ]
  refine wpAnyH_take (i := 12) (oi := _) (v := ?tkv6013) rfl (by kernel_rfl) (by kernel_rfl) (by kernel_rfl) (fun _ _ _ h => h) (Or.inl ⟨by rfl, ?tky6013⟩) hH6009 ?tkr6013
  case tky6013 => (intro w' hSw; clear hSw; go_simp; try with_reducible rfl)
  try simp only [Act.put, List.setIfInBounds_toArray, List.set_cons_zero, List.set_cons_succ]
  refine wpAnyH_take (i := 13) (oi := _) (v := ?tkv6014) rfl (by kernel_rfl) (by kernel_rfl) (by kernel_rfl) (fun _ _ _ h => h) (Or.inl ⟨by rfl, ?tky6014⟩) hH6009 ?tkr6014
  case tky6014 => (intro w' hSw; clear hSw; go_simp; try with_reducible rfl)
  try simp only [Act.put, List.setIfInBounds_toArray, List.set_cons_zero, List.set_cons_succ]
  refine wpAnyH_done (by kernel_rfl) ?_ _
  refine NoPanic.normal ?_
  have HB2 : Hid (Below w.heap.size w wn6009) := Lib.hid hH6009
  have HR2 := Lib.hid (Row.of_own HO6009.out)
  go_wp2_with fail
  refine (cwrap_any 1 1 rfl 76 c6009 A6009 ML wn6009 HR2.out (by omega)).mono ?_
  rintro e w3 ⟨A3, n3, c3, rfl, hn3, ho3, hb3⟩
  have hend := HB2.out.trans (hb3.mono HB2.out.size)
  have hown := own_base ho3 HB2.out.size
  clear hb3 ho3
  go_wp2_with fail
  go_ret
  exact ⟨A3, n3, c3, rfl, hn3, hown, hend⟩
end Go.Proofs.YtidcnoejihjgjaaGreatDoor.Car
