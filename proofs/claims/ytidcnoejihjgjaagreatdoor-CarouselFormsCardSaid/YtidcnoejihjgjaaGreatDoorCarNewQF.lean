/- carousel's New: by contract. -/
import Derived.Test.YtidcnoejihjgjaaGreatDoorZZBQF
import Derived.Test.YtidcnoejihjgjaaGreatDoorShaSumQF
import Derived.Test.YtidcnoejihjgjaaGreatDoorZSQF
namespace Go.Proofs.YtidcnoejihjgjaaGreatDoor.Car
open Go.RowKit
open VecM RdM Vc Sp Pc El Cd Dc
def carC (Ak : Option Addr) (nk ck s v : Nat) (L Z P : Int) (Ah : Option Addr) (ch K gc : Nat) : Array Value := #[.slice Ak nk ck, .int .u32 (s : Int), .int .u32 (v : Int), .int .i64 L, .int .i64 Z, .int .i64 P, .slice Ah 32 ch, .int .u32 (s : Int), .int .i64 (K : Int), .int .i64 P, .int .i64 Z, .pointer (some ⟨gc, 0, none⟩)]
def carO (g : Nat) (cs : Array Value) (Ak : Option Addr) (key : List UInt8) (Ah : Option Addr) (hash : List UInt8) : Dc.Obj := fun W H => W.heap[g]? = some (.cells cs 62 (0, 0)) ∧ H g ∧ g < W.heap.size ∧ RowP W H Ak key.length (bv key) ∧ RowP W H Ah 32 (bv hash)
theorem keeps_car (g : Nat) (cs : Array Value) (Ak : Option Addr) (key : List UInt8) (Ah : Option Addr) (hash : List UInt8) : Keeps (carO g cs Ak key Ah hash) := fun _ _ _ ⟨h1, h2, h3, h4, h5⟩ hk hs =>
  ⟨(hk g h2 h3).trans h1, h2, Nat.lt_of_lt_of_le h3 hs, h4.keep hs hk, h5.keep hs hk⟩
theorem rowP_own {w : World} {base n c : Nat} {A : Option Addr} {xs : List Value} (h : w.ownsRow base 5 1 (.slice A n c) n xs) : RowP w (fun b => base ≤ b ∧ b < w.heap.size) A n xs := by
  refine ⟨(Row.of_own h).1, fun hn => ?_⟩
  obtain ⟨b, o, e, hb, hc⟩ := (Row.of_own h).2 hn
  exact ⟨b, o, e, hb, ⟨(h.lt b (by rw [e]; rfl)).1, hb⟩, hc⟩
theorem cnew_sep {w w1 X Y Kx Kw W W' : World} {s K p zz gc nk : Nat} {cs : Array Value} {img key hash : List UInt8} {Ak Ah : Option Addr} (hb1 : Below w.heap.size w w1) (hr : RowP w1 (fun b => w.heap.size ≤ b ∧ b < w1.heap.size) Ah 32 (bv hash))
    (hord : Below w1.heap.size w1 X ∧ Below X.heap.size X Y ∧ Below Y.heap.size Y W ∧ Below w1.heap.size w1 Kx ∧ Below Kx.heap.size Kx Kw ∧ Below Kw.heap.size Kw W ∧ (Y.heap.size ≤ Kx.heap.size ∨ Kw.heap.size ≤ X.heap.size))
    (hk : RowP Kw (fun b => Kx.heap.size ≤ b ∧ b < Kw.heap.size) Ak nk (bv key)) (hh : headO s K p zz img gc Y (fun b => X.heap.size ≤ b ∧ b < Y.heap.size)) (hc : W'.heap[W.heap.size]? = some (.cells cs 62 (0, 0))) (hz : W'.heap.size = W.heap.size + 1) (hbl : Below W.heap.size W W') :
    Sep3 noObj (headO s K p zz img gc) (carO W.heap.size cs Ak key Ah hash) w W' := by
  obtain ⟨o1, o2, o3, o4, o5, o6, o7⟩ := hord
  have z1 := o1.size
  have z2 := o2.size
  have z3 := o3.size
  have z4 := o4.size
  have z5 := o5.size
  have z6 := o6.size
  have z7 := hb1.size
  have hw1 : Below w1.heap.size w1 W' := (o1.trans ((o2.trans (o3.mono z2)).mono z1)).trans (hbl.mono (by omega))
  have hkl : key.length = nk := by have := hk.1; simpa [bv] using this
  subst hkl
  refine ⟨fun _ => False, fun b => X.heap.size ≤ b ∧ b < Y.heap.size, fun b => w.heap.size ≤ b ∧ b < W'.heap.size ∧ ¬ (X.heap.size ≤ b ∧ b < Y.heap.size), trivial, ?_, ⟨hc, ⟨by omega, by omega, by omega⟩, by omega, ?_, ?_⟩, fun _ h => h.elim, fun _ h => h.elim, fun b h1 h2 => h2.2.2 h1, ?_, hb1.trans (hw1.mono z7)⟩
  · exact keeps_head s K p zz img gc Y W' _ hh (fun q hq hl => (o3.trans (hbl.mono z3)).block q hl) (by omega)
  · exact (hk.keep (w' := W') (by omega) (fun b hb hl => (o6.trans (hbl.mono z6)).block b hl)).imp fun b _ hb => ⟨by omega, by omega, by omega⟩
  · exact (hr.keep (w' := W') (by omega) (fun b hb hl => hw1.block b hl)).imp fun b _ hb => ⟨hb.1, by omega, by omega⟩
  · rintro q (h | h | h)
    · exact h.elim
    · exact ⟨by omega, by omega⟩
    · exact ⟨h.1, h.2.1⟩
theorem count_yes' {len Z P K : Nat} (hK : BlkM.count (len : Int) (Z : Int) = K) (hK2 : 1 ≤ K ∧ K ≤ 64) (hP : P ≤ 16) (hZ : 1 ≤ Z ∧ Z ≤ 16) : ofB (len : Int) (Z : Int) (P : Int) = true := by
  unfold ofB mayB
  rw [hK]
  simp
  omega
def CNewOk (s v K P Z n nk : Nat) (img key : List UInt8) (w : World) (e : Ending) (w' : World) : Prop :=
  ∃ g gc Ak ck Ah ch, e = .returned (.tuple #[.pointer (some ⟨g, 0, none⟩), .int .i64 0]) ∧ Hid (Sep3 noObj (headO s K P Z img gc) (carO g (carC Ak nk ck s v (n : Int) (Z : Int) (P : Int) Ah ch K gc) Ak key Ah (Sha.D img)) w w')
set_option maxRecDepth 100000 in
set_option maxHeartbeats 6400000 in
theorem cnew_any (Ak : Option Addr) (nk ck : Nat) (key : List UInt8) (s v : Nat) (Ai : Option Addr) (n ci : Nat) (img : List UInt8) (zz p kk : Nat) (w : World) (ht : Sh.Tab w) (hk : Row w w.heap.size Ak nk (bv key)) (hnk : nk ≤ 64) (hi : Row w w.heap.size Ai n (bv img)) (hn : n ≤ 1000) (hs : s < 4294967296)
    (hc : BlkM.count (n : Int) (zz : Int) = kk) (hK : 1 ≤ kk ∧ kk ≤ 64) (hp : p ≤ 16) (hz : 1 ≤ zz ∧ zz ≤ 16) :
    Calls Tryz.prog 6 #[.slice Ak nk ck, .int .u32 (s : Int), .int .u32 (v : Int), .slice Ai n ci, .int .i64 (zz : Int), .int .i64 (p : Int)] w (CNewOk s v kk p zz n nk img key w) := by
  have hil : img.length = n := hi.blen
  have hnkk : key.length = nk := hk.blen
  have HKL := Lib.hid hnkk
  have HIL := Lib.hid hil
  have HKR := Lib.hid hk
  have HNK : Hid (nk ≤ 1000000000) := Lib.hid (by omega)
  have HSUM := Lib.hid (Sh.sum_any w.heap.size n ci Ai img w ht hi (Nat.le_refl _) (by omega))
  have HIR := Lib.hid hi
  have HCY := Lib.hid (count_yes' hc hK hp hz)
  have HC := Lib.hid hc
  have HK := Lib.hid hK
  have HPZ := Lib.hid hz
  have hp16 := hp
  have hkg : ¬ (64 : Int) < (nk : Int) := by omega
  have HN := Lib.hid hn
  clear hnkk hil hk hi hc hK hz ht hn hp
  go_enter Tryz.func6, Tryz.ntmps6
  go_wp2_with fail
  refine HSUM.out.mono ?_
  rintro e w1 ⟨A1, c1, rfl, ho1, hb1⟩
  have HB1 := Lib.hid hb1.out
  have HR1 := Lib.hid (rowP_own ho1.out)
  clear HSUM ho1 hb1
  have HX2 := Lib.hid (heap_alloc_new w1 (.cells #[.int .u32 (s : Int), .int .u32 (v : Int), .int .i64 (n : Int), .int .i64 (zz : Int), .int .i64 (p : Int), .slice A1 32 c1] 32))
  have HB12 : Hid (Below w1.heap.size w1 (w1.alloc (.cells #[.int .u32 (s : Int), .int .u32 (v : Int), .int .i64 (n : Int), .int .i64 (zz : Int), .int .i64 (p : Int), .slice A1 32 c1] 32))) := Lib.hid ((Below.refl _ _).alloc (Nat.le_refl _) _)
  have HL2 : Hid (w1.heap.size < (w1.alloc (.cells #[.int .u32 (s : Int), .int .u32 (v : Int), .int .i64 (n : Int), .int .i64 (zz : Int), .int .i64 (p : Int), .slice A1 32 c1] 32)).heap.size) := Lib.hid (by simp)
  go_upto_region 2 with fail
  generalize (w1.alloc (.cells #[.int .u32 (s : Int), .int .u32 (v : Int), .int .i64 (n : Int), .int .i64 (zz : Int), .int .i64 (p : Int), .slice A1 32 c1] 32)) = w2 at *
  obtain ⟨c0, c1', c2, d3, d4, d5⟩ := bx6 HX2.out
  have HMM := Lib.hid (manMay_any s v (n : Int) (zz : Int) (p : Int) A1 32 c1 w2)
  rw [show manB (n : Int) (zz : Int) (p : Int) 32 = true by unfold manB; rw [HCY.out]; rfl] at HMM
  go_wp2_with fail
  refine HMM.out.mono ?_
  rintro e w3 ⟨rfl, hb3⟩
  have HB23 := Lib.hid hb3
  clear HMM hb3 c0 c1' c2 d3 d4 d5
  have HX3 : Hid (w3.heap[w1.heap.size]? = some (.cells #[.int .u32 (s : Int), .int .u32 (v : Int), .int .i64 (n : Int), .int .i64 (zz : Int), .int .i64 (p : Int), .slice A1 32 c1] 32 (0, 0))) := Lib.hid ((HB23.out.block w1.heap.size HL2.out).trans HX2.out)
  obtain ⟨c0, c1', c2, d3, d4, d5⟩ := bx6 HX3.out
  have HOF := Lib.hid (of_all s v (n : Int) (zz : Int) (p : Int) A1 32 c1 w3)
  go_wp2_with fail
  refine HOF.out.mono ?_
  rintro e w3b ⟨sq, Kq, Pq, Zq, rfl, hb3b, hval⟩
  obtain ⟨rfl, rfl, rfl, rfl⟩ := hval HCY.out
  rw [HCY.out, HC.out]
  have HB3b := Lib.hid hb3b
  clear HOF hval hb3b c0 c1' c2 d3 d4 d5
  have HX4 := Lib.hid (heap_alloc_new w3b (.cells #[.int .u32 (s : Int), .int .i64 (kk : Int), .int .i64 (p : Int), .int .i64 (zz : Int)] 35))
  have HB34 : Hid (Below w3b.heap.size w3b (w3b.alloc (.cells #[.int .u32 (s : Int), .int .i64 (kk : Int), .int .i64 (p : Int), .int .i64 (zz : Int)] 35))) := Lib.hid ((Below.refl _ _).alloc (Nat.le_refl _) _)
  have HL4 : Hid (w3b.heap.size < (w3b.alloc (.cells #[.int .u32 (s : Int), .int .i64 (kk : Int), .int .i64 (p : Int), .int .i64 (zz : Int)] 35)).heap.size) := Lib.hid (by simp)
  go_upto_region 5 with fail
  generalize (w3b.alloc (.cells #[.int .u32 (s : Int), .int .i64 (kk : Int), .int .i64 (p : Int), .int .i64 (zz : Int)] 35)) = w4 at *
  have HB14 : Hid (Below w1.heap.size w1 w4) := Lib.hid (HB12.out.trans ((HB23.out.trans ((HB3b.out.trans (HB34.out.mono HB3b.out.size)).mono HB23.out.size)).mono HB12.out.size))
  have HB4 : Hid (Below w.heap.size w w4) := Lib.hid (HB1.out.trans (HB14.out.mono HB1.out.size))
  have HX34 : Hid (w4.heap[w1.heap.size]? = some (.cells #[.int .u32 (s : Int), .int .u32 (v : Int), .int .i64 (n : Int), .int .i64 (zz : Int), .int .i64 (p : Int), .slice A1 32 c1] 32 (0, 0))) := Lib.hid ((HB34.out.block w1.heap.size (by have := HL2.out; have := HB23.out.size; have := HB3b.out.size; omega)).trans ((HB3b.out.block w1.heap.size (by have := HL2.out; have := HB23.out.size; omega)).trans HX3.out))
  have HFX : Hid (∀ W, Below w4.heap.size w4 W → (W.cell? ⟨w1.heap.size, 0, none⟩ = some (.int .u32 (s : Int)) ∧ W.cell? ⟨w1.heap.size, 1, none⟩ = some (.int .u32 (v : Int)) ∧ W.cell? ⟨w1.heap.size, 2, none⟩ = some (.int .i64 (n : Int)) ∧ W.cell? ⟨w1.heap.size, 3, none⟩ = some (.int .i64 (zz : Int)) ∧ W.cell? ⟨w1.heap.size, 4, none⟩ = some (.int .i64 (p : Int)) ∧ W.cell? ⟨w1.heap.size, 5, none⟩ = some (.slice A1 32 c1)) ∧ W.cell? ⟨w3b.heap.size, 0, none⟩ = some (.int .u32 (s : Int)) ∧ W.cell? ⟨w3b.heap.size, 1, none⟩ = some (.int .i64 (kk : Int)) ∧ W.cell? ⟨w3b.heap.size, 2, none⟩ = some (.int .i64 (p : Int)) ∧ W.cell? ⟨w3b.heap.size, 3, none⟩ = some (.int .i64 (zz : Int))) := Lib.hid (fun W hW => ⟨bx6 ((hW.block w1.heap.size (Array.getElem?_eq_some_iff.1 HX34.out).1).trans HX34.out), box4 ((hW.block w3b.heap.size HL4.out).trans HX4.out)⟩)
  have HNW : Hid (∀ W, Below w4.heap.size w4 W → Calls Tryz.prog 27 #[.agg #[.int .u32 (s : Int), .int .i64 (kk : Int), .int .i64 (p : Int), .int .i64 (zz : Int)], .slice Ai n ci] W (NewHOk s kk p zz img W)) := Lib.hid (fun W hW => by
    have hw : Below w.heap.size w W := HB4.out.trans (hW.mono HB4.out.size)
    have h := new_yes s kk p zz w.heap.size ci Ai img W HK.out hp16 HPZ.out (by rw [HIL.out]; exact HIR.out.below hw) hw.size (by rw [HIL.out]; have := HN.out; omega) (by rw [HIL.out]; exact HC.out)
    rw [HIL.out] at h
    unfold parV at h
    exact h)
  clear HX2 HX3 HX34 HX4 HB12 HB23 HB3b HB34 HL2 HL4 HCY hkg
  refine wp_region_noPanic ?_
  refine wp_region_held_drew (S := (fun W => Below w4.heap.size w4 W)) (by kernel_rfl) ((Below.refl w4.heap.size w4).drew) (fun hH0 => ?_)
  have hH0 : Below w4.heap.size w4 w4.drew := hH0
  generalize w4.drew = wd5000 at *
  refine wpAnyH_take (i := 0) (oi := { dst := some 39, op := Op.move (Operand.tmp 0), type := 22, pos := "carousel.go:42", after := #[], guard := none }) (v := ?tkv5001) rfl (by kernel_rfl) (by kernel_rfl) (by kernel_rfl) (fun _ _ _ h => h) (Or.inl ⟨by rfl, ?tky5001⟩) hH0 ?tkr5001
  case tky5001 => (intro w' hSw; clear hSw; go_simp; try with_reducible rfl)
  try simp only [Act.put, List.setIfInBounds_toArray, List.set_cons_zero, List.set_cons_succ]
  refine wpAnyH_take (i := 2) (oi := { dst := some 41, op := Op.load 32 (Operand.tmp 14), type := 32, pos := "carousel.go:42", after := #[], guard := none }) (v := ?tkv5002) rfl (by kernel_rfl) (by kernel_rfl) (by kernel_rfl) (fun _ _ _ h => h) (Or.inl ⟨by rfl, ?tky5002⟩) hH0 ?tkr5002
  case tky5002 => (intro w' hSw; have z0 := HFX.out _ hSw; clear hSw; go_simp; try with_reducible rfl)
  try simp only [Act.put, List.setIfInBounds_toArray, List.set_cons_zero, List.set_cons_succ]
  refine wpAnyH_take (i := 3) (oi := { dst := some 42, op := Op.load 35 (Operand.tmp 15), type := 35, pos := "carousel.go:42", after := #[], guard := none }) (v := ?tkv5003) rfl (by kernel_rfl) (by kernel_rfl) (by kernel_rfl) (fun _ _ _ h => h) (Or.inl ⟨by rfl, ?tky5003⟩) hH0 ?tkr5003
  case tky5003 => (intro w' hSw; have z0 := HFX.out _ hSw; clear hSw; go_simp; try with_reducible rfl)
  try simp only [Act.put, List.setIfInBounds_toArray, List.set_cons_zero, List.set_cons_succ]
  refine wpAnyH_take (i := 4) (oi := { dst := some 43, op := Op.load 35 (Operand.tmp 15), type := 35, pos := "carousel.go:42", after := #[], guard := none }) (v := ?tkv5004) rfl (by kernel_rfl) (by kernel_rfl) (by kernel_rfl) (fun _ _ _ h => h) (Or.inl ⟨by rfl, ?tky5004⟩) hH0 ?tkr5004
  case tky5004 => (intro w' hSw; have z0 := HFX.out _ hSw; clear hSw; go_simp; try with_reducible rfl)
  try simp only [Act.put, List.setIfInBounds_toArray, List.set_cons_zero, List.set_cons_succ]
  refine wpAnyH_take (i := 5) (oi := { dst := some 44, op := Op.move (Operand.tmp 3), type := 22, pos := "carousel.go:42", after := #[], guard := none }) (v := ?tkv5005) rfl (by kernel_rfl) (by kernel_rfl) (by kernel_rfl) (fun _ _ _ h => h) (Or.inl ⟨by rfl, ?tky5005⟩) hH0 ?tkr5005
  case tky5005 => (intro w' hSw; clear hSw; go_simp; try with_reducible rfl)
  try simp only [Act.put, List.setIfInBounds_toArray, List.set_cons_zero, List.set_cons_succ]
  refine wpAnyH_ready (rs := [1]) (by kernel_rfl) (by simp) ?_
  refine AllReadyH.cons (o := { dst := some 40, op := Op.call { callee := Callee.value (Operand.func 26), args := #[Operand.tmp 39], argTypes := #[22] }, type := 22, pos := "carousel.go:42", after := #[{ on := 0, ground := Ground.data }], guard := none }) rfl (fun K hK => ?_) AllReadyH.nil
  go_simp
  refine (clone_any w.heap.size nk ck Ak key wd5000 (HKR.out.below (HB4.out.trans ((hH0).mono HB4.out.size))) HNK.out (Nat.le_trans HB4.out.size (hH0).size)).mono ?_
  rintro e' wn5006 ⟨A5006, n5006, c5006, rfl, hn5006, ho5006, hb5006⟩
  obtain rfl : nk = n5006 := (hn5006.trans HKL.out).symm
  have HO5006 : Hid (RowP wn5006 (fun b => wd5000.heap.size ≤ b ∧ b < wn5006.heap.size) A5006 nk (bv key)) := Lib.hid (rowP_own ho5006)
  clear ho5006
  go_simp
  have hS5006 : Below w4.heap.size w4 wn5006 := (hH0).trans (hb5006.mono (hH0).size)
  refine hK.out _ _ hS5006 (fun hH5006 => ?_)
  have hH5006 : Below w4.heap.size w4 wn5006 := hH5006
  clear hK K hS5006
  try simp only [Act.put, List.setIfInBounds_toArray, List.set_cons_zero, List.set_cons_succ]
  refine wpAnyH_ready (rs := [6]) (by kernel_rfl) (by simp) ?_
  refine AllReadyH.cons (o := { dst := some 45, op := Op.call { callee := Callee.value (Operand.func 27), args := #[Operand.tmp 43, Operand.tmp 44], argTypes := #[35, 22] }, type := 59, pos := "carousel.go:42", after := #[{ on := 4, ground := Ground.data }, { on := 5, ground := Ground.data }, { on := 1, ground := Ground.chain }], guard := none }) rfl (fun K hK => ?_) AllReadyH.nil
  go_simp
  refine (HNW.out wn5006 (hH5006)).mono ?_
  rintro e' wn5007 ⟨gc5007, rfl, hg5007, _, hq5007, hbb5007⟩
  have hb5007 := hbb5007.out
  have HQ5007 : Hid (headO s kk p zz img gc5007 wn5007 (fun b => wn5006.heap.size ≤ b ∧ b < wn5007.heap.size)) := Lib.hid (head_new hq5007.out hg5007)
  clear hq5007 hg5007 hbb5007
  go_simp
  have hS5007 : Below w4.heap.size w4 wn5007 := (hH5006).trans (hb5007.mono (hH5006).size)
  refine hK.out _ _ hS5007 (fun hH5007 => ?_)
  have hH5007 : Below w4.heap.size w4 wn5007 := hH5007
  clear hK K hS5007
  try simp only [Act.put, List.setIfInBounds_toArray, List.set_cons_zero, List.set_cons_succ]
  refine wpAnyH_take (i := 7) (oi := { dst := some 46, op := Op.build 62 #[(0, Operand.tmp 40), (1, Operand.tmp 41), (2, Operand.tmp 42), (3, Operand.tmp 45)], type := 62, pos := "carousel.go:42", after := #[{ on := 1, ground := Ground.data }, { on := 2, ground := Ground.data }, { on := 3, ground := Ground.data }, { on := 6, ground := Ground.data }], guard := none }) (v := ?tkv5008) rfl (by kernel_rfl) (by kernel_rfl) (by kernel_rfl) (fun _ _ _ h => h) (Or.inl ⟨by rfl, ?tky5008⟩) hH5007 ?tkr5008
  case tky5008 => (intro w' hSw; clear hSw; go_simp; try with_reducible rfl)
  try simp only [Act.put, List.setIfInBounds_toArray, List.set_cons_zero, List.set_cons_succ]
  refine wpAnyH_ready (rs := [8]) (by kernel_rfl) (by simp) ?_
  refine AllReadyH.cons (o := { dst := some 47, op := Op.box 62 (Operand.tmp 46), type := 26, pos := "carousel.go:42", after := #[{ on := 7, ground := Ground.data }], guard := none }) rfl (fun K hK => ?_) AllReadyH.nil
  go_simp
  have hb5009 : Below wn5007.heap.size wn5007 (wn5007.alloc (.cells (carC A5006 nk c5006 s v (n : Int) (zz : Int) (p : Int) A1 c1 kk gc5007) 62)) := (Below.refl _ _).alloc (Nat.le_refl _) _
  have hS5009 : Below w4.heap.size w4 (wn5007.alloc (.cells (carC A5006 nk c5006 s v (n : Int) (zz : Int) (p : Int) A1 c1 kk gc5007) 62)) := (hH5007).trans (hb5009.mono (hH5007).size)
  refine hK.out _ _ hS5009 (fun hH5009 => ?_)
  have hH5009 : Below w4.heap.size w4 (wn5007.alloc (.cells (carC A5006 nk c5006 s v (n : Int) (zz : Int) (p : Int) A1 c1 kk gc5007) 62)) := hH5009
  clear hK K hS5009
  try simp only [Act.put, List.setIfInBounds_toArray, List.set_cons_zero, List.set_cons_succ]
  refine wpAnyH_take (i := 9) (oi := { dst := some 12, op := Op.assign (Operand.tmp 47), type := 26, pos := "carousel.go:42", after := #[{ on := 8, ground := Ground.data }, { on := 6, ground := Ground.chain }, { on := 0, ground := Ground.phase }, { on := 1, ground := Ground.phase }, { on := 2, ground := Ground.phase }, { on := 3, ground := Ground.phase }, { on := 4, ground := Ground.phase }, { on := 5, ground := Ground.phase }, { on := 6, ground := Ground.phase }, { on := 7, ground := Ground.phase }, { on := 8, ground := Ground.phase }], guard := none }) (v := ?tkv5010) rfl (by kernel_rfl) (by kernel_rfl) (by kernel_rfl) (fun _ _ _ h => h) (Or.inl ⟨by rfl, ?tky5010⟩) hH5009 ?tkr5010
  case tky5010 => (intro w' hSw; clear hSw; go_simp; try with_reducible rfl)
  try simp only [Act.put, List.setIfInBounds_toArray, List.set_cons_zero, List.set_cons_succ]
  refine wpAnyH_take (i := 10) (oi := { dst := some 13, op := Op.assign (Operand.const (Value.int IntKind.i64 0)), type := 27, pos := "carousel.go:42", after := #[{ on := 9, ground := Ground.chain }, { on := 0, ground := Ground.phase }, { on := 1, ground := Ground.phase }, { on := 2, ground := Ground.phase }, { on := 3, ground := Ground.phase }, { on := 4, ground := Ground.phase }, { on := 5, ground := Ground.phase }, { on := 6, ground := Ground.phase }, { on := 7, ground := Ground.phase }, { on := 8, ground := Ground.phase }, { on := 9, ground := Ground.phase }], guard := none }) (v := ?tkv5011) rfl (by kernel_rfl) (by kernel_rfl) (by kernel_rfl) (fun _ _ _ h => h) (Or.inl ⟨by rfl, ?tky5011⟩) hH5009 ?tkr5011
  case tky5011 => (intro w' hSw; clear hSw; go_simp; try with_reducible rfl)
  try simp only [Act.put, List.setIfInBounds_toArray, List.set_cons_zero, List.set_cons_succ]
  refine wpAnyH_done (by kernel_rfl) ?_ _
  refine NoPanic.normal ?_
  go_wp2_with fail
  go_ret2
  have hbl : Below wn5007.heap.size wn5007 (wn5007.alloc (.cells (carC A5006 nk c5006 s v (n : Int) (zz : Int) (p : Int) A1 c1 kk gc5007) 62)) := (Below.refl _ _).alloc (Nat.le_refl _) _
  have hz : (wn5007.alloc (.cells (carC A5006 nk c5006 s v (n : Int) (zz : Int) (p : Int) A1 c1 kk gc5007) 62)).heap.size = wn5007.heap.size + 1 := by simp
  exact ⟨wn5007.heap.size, gc5007, A5006, c5006, A1, c1, rfl, Lib.hid (cnew_sep (X := wn5006) (Y := wn5007) (Kx := wd5000) (Kw := wn5006) (W := wn5007) (W' := (wn5007.alloc (.cells (carC A5006 nk c5006 s v (n : Int) (zz : Int) (p : Int) A1 c1 kk gc5007) 62))) HB1.out HR1.out ⟨HB14.out.trans ((hH5006).mono HB14.out.size), hb5007, Below.refl _ _, HB14.out.trans ((hH0).mono HB14.out.size), hb5006, hb5007, .inr (Nat.le_refl _)⟩ (HO5006.out) (HQ5007.out) (heap_alloc_new _ _) hz hbl)⟩
end Go.Proofs.YtidcnoejihjgjaaGreatDoor.Car
