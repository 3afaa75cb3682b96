/- code's New, made, known: by contract. -/
import Derived.Test.YtidcnoejihjgjaaGreatDoorZMQF
import Derived.Test.YtidcnoejihjgjaaGreatDoorZQQF
namespace Go.Proofs.YtidcnoejihjgjaaGreatDoor.Cd
open Go.RowKit
open VecM RdM Vc Sp Pc
def headC (s K P Z : Nat) (iv : Value) (d m : Int) (v : Value) : Array Value := #[.int .u32 (s : Int), .int .i64 (K : Int), .int .i64 (P : Int), .int .i64 (Z : Int), iv, .int .u32 d, .int .i32 m, .int .u32 0, v]
def HF (s K P Z : Nat) (img : List UInt8) (W : World) (g : Nat) : Prop :=
  ∃ A c, W.heap[g]? = some (.cells (headC s K P Z (.slice A img.length c) 0 0 (.slice none 0 0)) 111 (0, 0)) ∧ Row W g A img.length (bv img) ∧ img.length ≤ c ∧ c ≤ 9223372036854775807
def HFq (s K P Z : Nat) (img : List UInt8) (B g : Nat) (W : World) : Prop :=
  B ≤ g ∧ ∃ A c, W.heap[g]? = some (.cells (headC s K P Z (.slice A img.length c) 0 0 (.slice none 0 0)) 111 (0, 0)) ∧ Row W g A img.length (bv img) ∧ (∀ b o, A = some ⟨b, o, none⟩ → 0 < img.length → B ≤ b) ∧ img.length ≤ c ∧ c ≤ 9223372036854775807
theorem HFq.hf {s K P Z : Nat} {img : List UInt8} {B g : Nat} {W : World} (h : HFq s K P Z img B g W) : HF s K P Z img W g := by
  obtain ⟨_, A, c, h1, h2, _, h3⟩ := h
  exact ⟨A, c, h1, h2, h3⟩
theorem HFq.keep {s K P Z : Nat} {img : List UInt8} {B g : Nat} {W W' : World} (h : HFq s K P Z img B g W) (hk : ∀ b, B ≤ b → b < W.heap.size → W'.heap[b]? = W.heap[b]?) : HFq s K P Z img B g W' := by
  obtain ⟨h0, A, c, h1, h2, h3, h4⟩ := h
  have hl := (Array.getElem?_eq_some_iff.1 h1).1
  refine ⟨h0, A, c, (hk g h0 hl).trans h1, ⟨h2.1, fun hn => ?_⟩, h3, h4⟩
  obtain ⟨b, o, e, hb, hc⟩ := h2.2 hn
  exact ⟨b, o, e, hb, fun j u hu => (World.cell?_of_block (w := W) (a := ⟨b, o + j, none⟩) (hk b (h3 b o e hn) (Nat.lt_trans hb hl))).trans (hc j u hu)⟩
def HM (s K P Z : Nat) (img : List UInt8) (W : World) (B g : Nat) : Prop :=
  ∃ iv A c, W.heap[g]? = some (.cells (headC s K P Z iv 1 0 (.slice A (K + P) c)) 111 (0, 0)) ∧ PW (allC s K P Z img) B (.slice A (K + P) c) W ∧ g < B
theorem HF.lt {s K P Z : Nat} {img : List UInt8} {W : World} {g : Nat} (h : HF s K P Z img W g) : g < W.heap.size := by
  obtain ⟨A, c, h, _⟩ := h
  exact (Array.getElem?_eq_some_iff.1 h).1
theorem HM.lt {s K P Z : Nat} {img : List UInt8} {W : World} {B g : Nat} (h : HM s K P Z img W B g) : g < W.heap.size := by
  obtain ⟨_, _, _, h, _⟩ := h
  exact (Array.getElem?_eq_some_iff.1 h).1
theorem HF.below {s K P Z : Nat} {img : List UInt8} {W W' : World} {g : Nat} (h : HF s K P Z img W g) (hb : Below W.heap.size W W') : HF s K P Z img W' g := by
  have hl := h.lt
  obtain ⟨A, c, h1, h2, h3⟩ := h
  exact ⟨A, c, (hb.block g hl).trans h1, h2.below (hb.mono (Nat.le_of_lt hl)), h3⟩
theorem HM.below {s K P Z : Nat} {img : List UInt8} {W W' : World} {B g : Nat} (h : HM s K P Z img W B g) (hb : Below W.heap.size W W') : HM s K P Z img W' B g := by
  have hl := h.lt
  obtain ⟨iv, A, c, h1, h2, h3⟩ := h
  exact ⟨iv, A, c, (hb.block g hl).trans h1, h2.below hb, h3⟩
def NewHOk (s K P Z : Nat) (img : List UInt8) (w : World) (e : Ending) (w' : World) : Prop := ∃ g, e = .returned (.pointer (some ⟨g, 0, none⟩)) ∧ w.heap.size ≤ g ∧ g < w'.heap.size ∧ Hid (HFq s K P Z img w.heap.size g w') ∧ Hid (Below w.heap.size w w')
set_option maxRecDepth 100000 in
set_option maxHeartbeats 1600000 in
theorem new_yes (s kk P Z B c : Nat) (A : Option Addr) (img : List UInt8) (w : World) (hK : 1 ≤ kk ∧ kk ≤ 64) (hP : P ≤ 16) (hZ : 1 ≤ Z ∧ Z ≤ 16) (hr : Row w B A img.length (bv img)) (hB : B ≤ w.heap.size) (hn : img.length ≤ 1000000000) (hc : BlkM.count (img.length : Int) (Z : Int) = kk) :
    Calls Tryz.prog 27 #[parV s kk P Z, .slice A img.length c] w (NewHOk s kk P Z img w) := by
  have HX0 := Lib.hid (heap_alloc_new w (.cells #[.int .u32 (s : Int), .int .i64 (kk : Int), .int .i64 (P : Int), .int .i64 (Z : Int)] 35))
  have HB0 : Hid (Below w.heap.size w (w.alloc (.cells #[.int .u32 (s : Int), .int .i64 kk, .int .i64 P, .int .i64 Z] 35))) := (Below.refl _ _).alloc (Nat.le_refl _) _
  have hz : (w.alloc (.cells #[.int .u32 (s : Int), .int .i64 kk, .int .i64 P, .int .i64 Z] 35)).heap.size = w.heap.size + 1 := by simp
  generalize hw0 : (w.alloc (.cells #[.int .u32 (s : Int), .int .i64 kk, .int .i64 P, .int .i64 Z] 35)) = w0 at *
  have HW0 := Lib.hid hw0
  have HZ0 := Lib.hid hz
  clear hz hw0
  have HM := Lib.hid (fun W => may_any s kk P Z W)
  have hm : mayB (kk : Int) (P : Int) (Z : Int) = true := (mayB_iff _ _ _).2 ⟨by omega, by omega, by omega⟩
  rw [hm] at HM
  have hq : ((kk : Int) != (kk : Int)) = false := by simp
  have HCN := Lib.hid (fun W => count_any (img.length : Int) (Z : Int) W)
  rw [hc] at HCN
  have HR := Lib.hid hr
  have HBB := Lib.hid hB
  have HN := Lib.hid hn
  unfold parV at HM ⊢
  clear hm hK hP hZ hr hB hn hc
  go_enter Tryz.func27, Tryz.ntmps27
  go_upto_region 1 with fail
  rw [HW0.out]
  have HF : Hid (∀ W, Below w0.heap.size w0 W → W.cell? ⟨w.heap.size, 0, none⟩ = some (.int .u32 (s : Int)) ∧ W.cell? ⟨w.heap.size, 1, none⟩ = some (.int .i64 (kk : Int)) ∧ W.cell? ⟨w.heap.size, 2, none⟩ = some (.int .i64 (P : Int)) ∧ W.cell? ⟨w.heap.size, 3, none⟩ = some (.int .i64 (Z : Int))) := Lib.hid fun W hW => box4 ((hW.block w.heap.size (by have := HZ0.out; omega)).trans HX0.out)
  refine wp_region_noPanic ?_
  refine wp_region_held_drew (S := (fun W => Below (w0.heap.size) w0 W)) (by kernel_rfl) (Below.refl _ _).drew (fun hH0 => ?_)
  have hH0 : Below (w0.heap.size) w0 w0.drew := hH0
  generalize w0.drew = wd5400 at *
  refine wpAnyH_take (i := 0) (oi := { dst := some 5, op := Op.load 35 (Operand.tmp 2), type := 35, pos := "code.go:33", after := #[], guard := none }) (v := ?tkv5401) rfl (by kernel_rfl) (by kernel_rfl) (by kernel_rfl) (fun _ _ _ h => h) (Or.inl ⟨by rfl, ?tky5401⟩) hH0 ?tkr5401
  case tky5401 => (intro w' hSw; have z0 := HF.out _ hSw; clear hSw; go_simp; try with_reducible rfl)
  try simp only [Act.put, List.setIfInBounds_toArray, List.set_cons_zero, List.set_cons_succ]
  refine wpAnyH_ready (rs := [1]) (by kernel_rfl) (by simp) ?_
  refine AllReadyH.cons (o := { dst := some 6, op := Op.call { callee := Callee.value (Operand.func 59), args := #[Operand.tmp 5], argTypes := #[35] }, type := 4, pos := "code.go:33", after := #[{ on := 0, ground := Ground.data }], guard := none }) rfl (fun K hK => ?_) AllReadyH.nil
  go_simp
  refine (HM.out wd5400).mono ?_
  rintro e' wn5402 ⟨rfl, hb5402⟩
  have hb5402 := hb5402.out
  go_simp
  have hS5402 : Below (w0.heap.size) w0 wn5402 := (hH0).trans (hb5402.mono (hH0).size)
  refine hK.out _ _ hS5402 (fun hH5402 => ?_)
  have hH5402 : Below (w0.heap.size) w0 wn5402 := hH5402
  clear hK K hS5402
  try simp only [Act.put, List.setIfInBounds_toArray, List.set_cons_zero, List.set_cons_succ]
  refine wpAnyH_take (i := 2) (oi := { dst := some 7, op := Op.unOp UnOp.not 4 (Operand.tmp 6), type := 4, pos := "code.go:33", after := #[{ on := 1, ground := Ground.data }], guard := none }) (v := ?tkv5403) rfl (by kernel_rfl) (by kernel_rfl) (by kernel_rfl) (fun _ _ _ h => h) (Or.inl ⟨by rfl, ?tky5403⟩) hH5402 ?tkr5403
  case tky5403 => (intro w' hSw; clear hSw; go_simp; try with_reducible rfl)
  try simp only [Act.put, List.setIfInBounds_toArray, List.set_cons_zero, List.set_cons_succ]
  refine wpAnyH_take (i := 3) (oi := { dst := some 8, op := Op.move (Operand.tmp 7), type := 4, pos := "code.go:33", after := #[{ on := 2, ground := Ground.data }, { on := 1, ground := Ground.chain }], guard := none }) (v := ?tkv5404) rfl (by kernel_rfl) (by kernel_rfl) (by kernel_rfl) (fun _ _ _ h => h) (Or.inl ⟨by rfl, ?tky5404⟩) hH5402 ?tkr5404
  case tky5404 => (intro w' hSw; clear hSw; go_simp; try with_reducible rfl)
  try simp only [Act.put, List.setIfInBounds_toArray, List.set_cons_zero, List.set_cons_succ]
  refine wpAnyH_take (i := 4) (oi := { dst := some 9, op := Op.move (Operand.tmp 1), type := 22, pos := "code.go:33", after := #[{ on := 3, ground := Ground.guard }], guard := some (3, false) }) (v := ?tkv5405) rfl (by kernel_rfl) (by kernel_rfl) (by kernel_rfl) (fun _ _ _ h => h) (Or.inl ⟨by rfl, ?tky5405⟩) hH5402 ?tkr5405
  case tky5405 => (intro w' hSw; clear hSw; go_simp; try with_reducible rfl)
  try simp only [Act.put, List.setIfInBounds_toArray, List.set_cons_zero, List.set_cons_succ]
  refine wpAnyH_take (i := 5) (oi := { dst := some 10, op := Op.call { callee := Callee.builtin Builtin.len, args := #[Operand.tmp 9], argTypes := #[22] }, type := 3, pos := "code.go:33", after := #[{ on := 4, ground := Ground.data }, { on := 3, ground := Ground.guard }], guard := some (3, false) }) (v := ?tkv5406) rfl (by kernel_rfl) (by kernel_rfl) (by kernel_rfl) (fun _ _ _ h => h) (Or.inl ⟨by rfl, ?tky5406⟩) hH5402 ?tkr5406
  case tky5406 => (intro w' hSw; clear hSw; go_simp; try with_reducible rfl)
  try simp only [Act.put, List.setIfInBounds_toArray, List.set_cons_zero, List.set_cons_succ]
  refine wpAnyH_take (i := 6) (oi := { dst := some 11, op := Op.fieldAddr 35 (Operand.tmp 2) 3, type := 0, pos := "code.go:33", after := #[{ on := 3, ground := Ground.guard }], guard := some (3, false) }) (v := ?tkv5407) rfl (by kernel_rfl) (by kernel_rfl) (by kernel_rfl) (fun _ _ _ h => h) (Or.inl ⟨by rfl, ?tky5407⟩) hH5402 ?tkr5407
  case tky5407 => (intro w' hSw; clear hSw; go_simp; try with_reducible rfl)
  try simp only [Act.put, List.setIfInBounds_toArray, List.set_cons_zero, List.set_cons_succ]
  refine wpAnyH_take (i := 7) (oi := { dst := some 12, op := Op.load 3 (Operand.tmp 11), type := 3, pos := "code.go:33", after := #[{ on := 6, ground := Ground.data }, { on := 3, ground := Ground.guard }], guard := some (3, false) }) (v := ?tkv5408) rfl (by kernel_rfl) (by kernel_rfl) (by kernel_rfl) (fun _ _ _ h => h) (Or.inl ⟨by rfl, ?tky5408⟩) hH5402 ?tkr5408
  case tky5408 => (intro w' hSw; have z0 := HF.out _ hSw; clear hSw; go_simp; try with_reducible rfl)
  try simp only [Act.put, List.setIfInBounds_toArray, List.set_cons_zero, List.set_cons_succ]
  refine wpAnyH_take (i := 9) (oi := { dst := some 14, op := Op.fieldAddr 35 (Operand.tmp 2) 1, type := 0, pos := "code.go:33", after := #[{ on := 3, ground := Ground.guard }], guard := some (3, false) }) (v := ?tkv5409) rfl (by kernel_rfl) (by kernel_rfl) (by kernel_rfl) (fun _ _ _ h => h) (Or.inl ⟨by rfl, ?tky5409⟩) hH5402 ?tkr5409
  case tky5409 => (intro w' hSw; clear hSw; go_simp; try with_reducible rfl)
  try simp only [Act.put, List.setIfInBounds_toArray, List.set_cons_zero, List.set_cons_succ]
  refine wpAnyH_take (i := 10) (oi := { dst := some 15, op := Op.load 3 (Operand.tmp 14), type := 3, pos := "code.go:33", after := #[{ on := 9, ground := Ground.data }, { on := 3, ground := Ground.guard }], guard := some (3, false) }) (v := ?tkv5410) rfl (by kernel_rfl) (by kernel_rfl) (by kernel_rfl) (fun _ _ _ h => h) (Or.inl ⟨by rfl, ?tky5410⟩) hH5402 ?tkr5410
  case tky5410 => (intro w' hSw; have z0 := HF.out _ hSw; clear hSw; go_simp; try with_reducible rfl)
  try simp only [Act.put, List.setIfInBounds_toArray, List.set_cons_zero, List.set_cons_succ]
  refine wpAnyH_ready (rs := [8]) (by kernel_rfl) (by simp) ?_
  refine AllReadyH.cons (o := { dst := some 13, op := Op.call { callee := Callee.value (Operand.func 58), args := #[Operand.tmp 10, Operand.tmp 12], argTypes := #[3, 3] }, type := 3, pos := "code.go:33", after := #[{ on := 5, ground := Ground.data }, { on := 7, ground := Ground.data }, { on := 3, ground := Ground.chain }, { on := 3, ground := Ground.guard }], guard := some (3, false) }) rfl (fun K hK => ?_) AllReadyH.nil
  go_simp
  refine (HCN.out wn5402).mono ?_
  rintro e' wx5411 ⟨rfl, rfl⟩
  go_simp
  have hS5411 : Below (w0.heap.size) w0 wn5402 := hH5402
  refine hK.out _ _ hS5411 (fun hH5411 => ?_)
  have hH5411 : Below (w0.heap.size) w0 wn5402 := hH5411
  clear hK K hS5411
  try simp only [Act.put, List.setIfInBounds_toArray, List.set_cons_zero, List.set_cons_succ]
  refine wpAnyH_take (i := 11) (oi := { dst := some 16, op := Op.binOp BinOp.neq 3 (Operand.tmp 13) (Operand.tmp 15) 3, type := 4, pos := "code.go:33", after := #[{ on := 8, ground := Ground.data }, { on := 10, ground := Ground.data }, { on := 3, ground := Ground.guard }], guard := some (3, false) }) (v := ?tkv5412) rfl (by kernel_rfl) (by kernel_rfl) (by kernel_rfl) (fun _ _ _ h => h) (Or.inl ⟨by rfl, ?tky5412⟩) hH5411 ?tkr5412
  case tky5412 => (intro w' hSw; clear hSw; go_simp; try with_reducible rfl)
  try simp only [Act.put, List.setIfInBounds_toArray, List.set_cons_zero, List.set_cons_succ]
  refine wpAnyH_take (i := 12) (oi := { dst := some 17, op := Op.pick (Operand.tmp 8) (Operand.const (Value.bool true)) (Operand.tmp 16), type := 4, pos := "code.go:33", after := #[{ on := 3, ground := Ground.data }, { on := 11, ground := Ground.data }], guard := none }) (v := ?tkv5413) rfl (by kernel_rfl) (by kernel_rfl) (by kernel_rfl) (fun _ _ _ h => h) (Or.inl ⟨by rfl, ?tky5413⟩) hH5411 ?tkr5413
  case tky5413 => (intro w' hSw; clear hSw; go_simp; try with_reducible rfl)
  try simp only [Act.put, List.setIfInBounds_toArray, List.set_cons_zero, List.set_cons_succ]
  refine wpAnyH_done (by kernel_rfl) ?_ _
  refine NoPanic.normal ?_
  go_upto_region 3 with fail
  refine wp_region_noPanic ?_
  refine wp_region_held_drew (S := (fun W => Below w0.heap.size w0 W)) (by kernel_rfl) ((hH5411).trans ((Below.refl wn5402.heap.size wn5402).drew.mono (hH5411).size)) (fun hH0 => ?_)
  have hH0 : Below w0.heap.size w0 wn5402.drew := hH0
  generalize wn5402.drew = wd6000 at *
  refine wpAnyH_take (i := 0) (oi := { dst := some 18, op := Op.load 35 (Operand.tmp 2), type := 35, pos := "code.go:36", after := #[], guard := none }) (v := ?tkv6001) rfl (by kernel_rfl) (by kernel_rfl) (by kernel_rfl) (fun _ _ _ h => h) (Or.inl ⟨by rfl, ?tky6001⟩) hH0 ?tkr6001
  case tky6001 => (intro w' hSw; have z0 := HF.out _ hSw; clear hSw; go_simp; try with_reducible rfl)
  try simp only [Act.put, List.setIfInBounds_toArray, List.set_cons_zero, List.set_cons_succ]
  refine wpAnyH_take (i := 1) (oi := { dst := some 19, op := Op.move (Operand.tmp 1), type := 22, pos := "code.go:36", after := #[], guard := none }) (v := ?tkv6002) rfl (by kernel_rfl) (by kernel_rfl) (by kernel_rfl) (fun _ _ _ h => h) (Or.inl ⟨by rfl, ?tky6002⟩) hH0 ?tkr6002
  case tky6002 => (intro w' hSw; clear hSw; go_simp; try with_reducible rfl)
  try simp only [Act.put, List.setIfInBounds_toArray, List.set_cons_zero, List.set_cons_succ]
  refine wpAnyH_ready (rs := [2]) (by kernel_rfl) (by simp) ?_
  refine AllReadyH.cons (o := { dst := some 20, op := Op.call { callee := Callee.value (Operand.func 26), args := #[Operand.tmp 19], argTypes := #[22] }, type := 22, pos := "code.go:36", after := #[{ on := 1, ground := Ground.data }], guard := none }) rfl (fun K hK => ?_) AllReadyH.nil
  go_simp
  refine (clone_any B img.length c A img wd6000 (HR.out.below ((HB0.out.trans ((hH0).mono HB0.out.size)).mono HBB.out)) HN.out (Nat.le_trans HBB.out (Nat.le_trans HB0.out.size (hH0).size))).mono ?_
  rintro e' wn6003 ⟨A6003, n6003, c6003, rfl, hn6003, ho6003, hb6003⟩
  obtain rfl : n6003 = img.length := hn6003
  have HO6003 := Lib.hid ho6003
  clear ho6003
  go_simp
  have hS6003 : Below w0.heap.size w0 wn6003 := (hH0).trans (hb6003.mono (hH0).size)
  refine hK.out _ _ hS6003 (fun hH6003 => ?_)
  have hH6003 : Below w0.heap.size w0 wn6003 := hH6003
  clear hK K hS6003
  try simp only [Act.put, List.setIfInBounds_toArray, List.set_cons_zero, List.set_cons_succ]
  refine wpAnyH_take (i := 3) (oi := { dst := some 21, op := Op.build 111 #[(0, Operand.tmp 18), (1, Operand.tmp 20)], type := 111, pos := "code.go:36", after := #[{ on := 0, ground := Ground.data }, { on := 2, ground := Ground.data }], guard := none }) (v := ?tkv6004) rfl (by kernel_rfl) (by kernel_rfl) (by kernel_rfl) (fun _ _ _ h => h) (Or.inl ⟨by rfl, ?tky6004⟩) hH6003 ?tkr6004
  case tky6004 => (intro w' hSw; clear hSw; go_simp; try with_reducible rfl)
  try simp only [Act.put, List.setIfInBounds_toArray, List.set_cons_zero, List.set_cons_succ]
  refine wpAnyH_ready (rs := [4]) (by kernel_rfl) (by simp) ?_
  refine AllReadyH.cons (o := { dst := some 22, op := Op.box 111 (Operand.tmp 21), type := 59, pos := "code.go:36", after := #[{ on := 3, ground := Ground.data }], guard := none }) rfl (fun K hK => ?_) AllReadyH.nil
  go_simp
  have hb6005 : Below wn6003.heap.size wn6003 (wn6003.alloc (.cells (headC s kk P Z (.slice A6003 img.length c6003) 0 0 (.slice none 0 0)) 111)) := (Below.refl _ _).alloc (Nat.le_refl _) _
  have hS6005 : Below w0.heap.size w0 (wn6003.alloc (.cells (headC s kk P Z (.slice A6003 img.length c6003) 0 0 (.slice none 0 0)) 111)) := (hH6003).trans (hb6005.mono (hH6003).size)
  refine hK.out _ _ hS6005 (fun hH6005 => ?_)
  have hH6005 : Below w0.heap.size w0 (wn6003.alloc (.cells (headC s kk P Z (.slice A6003 img.length c6003) 0 0 (.slice none 0 0)) 111)) := hH6005
  clear hK K hS6005
  try simp only [Act.put, List.setIfInBounds_toArray, List.set_cons_zero, List.set_cons_succ]
  refine wpAnyH_take (i := 5) (oi := { dst := some 4, op := Op.assign (Operand.tmp 22), type := 59, pos := "code.go:36", after := #[{ on := 4, ground := Ground.data }, { on := 2, ground := Ground.chain }, { on := 0, ground := Ground.phase }, { on := 1, ground := Ground.phase }, { on := 2, ground := Ground.phase }, { on := 3, ground := Ground.phase }, { on := 4, ground := Ground.phase }], guard := none }) (v := ?tkv6006) rfl (by kernel_rfl) (by kernel_rfl) (by kernel_rfl) (fun _ _ _ h => h) (Or.inl ⟨by rfl, ?tky6006⟩) hH6005 ?tkr6006
  case tky6006 => (intro w' hSw; clear hSw; go_simp; try with_reducible rfl)
  try simp only [Act.put, List.setIfInBounds_toArray, List.set_cons_zero, List.set_cons_succ]
  refine wpAnyH_done (by kernel_rfl) ?_ _
  refine NoPanic.normal ?_
  go_wp2_with fail
  go_ret
  have hb4 : Below wn6003.heap.size wn6003 (wn6003.alloc (.cells (headC s kk P Z (.slice A6003 img.length c6003) 0 0 (.slice none 0 0)) 111)) := (Below.refl _ _).alloc (Nat.le_refl _) _
  have hc3 := own_cap HO6003.out
  have hl3 := HB0.out.trans ((hH6003).mono HB0.out.size)
  exact ⟨wn6003.heap.size, rfl, hl3.size, by simp, Lib.hid ⟨hl3.size, A6003, c6003, heap_alloc_new _ _, (Row.of_own HO6003.out).below hb4, fun b o e hn => Nat.le_trans (Nat.le_trans HB0.out.size (hH0).size) (HO6003.out.lt b (by rw [e]; rfl)).1, hc3.1, hc3.2⟩, Lib.hid (hl3.trans (hb4.mono hl3.size))⟩
structure MS (s K P Z : Nat) (iv : Value) (g b : Nat) (w : World) (W : World) : Prop where
  bt : But w.heap.size g w W
  bx : W.heap[b]? = some (.cells #[.pointer (some ⟨g, 0, none⟩)] 59 (0, 0))
  x : ∃ v, W.heap[g]? = some (.cells (headC s K P Z iv 0 1 v) 111 (0, 0))
theorem MS.size {s K P Z : Nat} {iv : Value} {g b : Nat} {w W : World} (h : MS s K P Z iv g b w W) : w.heap.size ≤ W.heap.size := h.bt.size
theorem MS.below {s K P Z : Nat} {iv : Value} {g b : Nat} {w W W' : World} (h : MS s K P Z iv g b w W) (hb : Below W.heap.size W W') : MS s K P Z iv g b w W' := by
  obtain ⟨v, hv⟩ := h.x
  exact ⟨h.bt.trans (But.of_below (hb.mono h.bt.size)), (hb.block _ (Array.getElem?_eq_some_iff.1 h.bx).1).trans h.bx, v, (hb.block _ (Array.getElem?_eq_some_iff.1 hv).1).trans hv⟩
theorem MS.store {s K P Z : Nat} {iv : Value} {g b : Nat} {w W : World} (h : MS s K P Z iv g b w W) (u : Value) : MS s K P Z iv g b w (W.setCell ⟨g, 8, none⟩ u) := by
  obtain ⟨v, hv⟩ := h.x
  have hne : b ≠ g := by
    intro e
    have h1 := h.bx
    rw [e, hv] at h1
    injection h1 with h1
    injection h1 with h1 _ _
    have h2 := congrArg Array.size h1
    simp [headC] at h2
  exact ⟨h.bt.setSelf 8 u, (heap_setCell_other _ _ _ _ hne).trans h.bx, u, heap_setCell_same _ g 8 _ _ u hv⟩
theorem MS.cells {s K P Z : Nat} {iv : Value} {g b : Nat} {w W : World} (h : MS s K P Z iv g b w W) : W.cell? ⟨b, 0, none⟩ = some (.pointer (some ⟨g, 0, none⟩)) ∧ W.cell? ⟨g, 0, none⟩ = some (.int .u32 (s : Int)) ∧ W.cell? ⟨g, 1, none⟩ = some (.int .i64 (K : Int)) ∧ W.cell? ⟨g, 2, none⟩ = some (.int .i64 (P : Int)) ∧ W.cell? ⟨g, 3, none⟩ = some (.int .i64 (Z : Int)) ∧ W.cell? ⟨g, 4, none⟩ = some iv := by
  obtain ⟨v, hv⟩ := h.x
  exact ⟨cell_at h.bx rfl, cell_at hv rfl, cell_at hv rfl, cell_at hv rfl, cell_at hv rfl, cell_at hv rfl⟩
set_option maxRecDepth 100000 in
set_option maxHeartbeats 1600000 in
theorem made1_any (s kk P Z c g b : Nat) (Ai : Option Addr) (img : List UInt8) (w : World) (hs : s < 4294967296) (hK : 1 ≤ kk ∧ kk ≤ 64) (hP : P ≤ 16) (hZ : 1 ≤ Z ∧ Z ≤ 16) (hc : BlkM.count (img.length : Int) (Z : Int) = kk) (hi : img.length ≤ c ∧ c ≤ 9223372036854775807)
    (hg : g < w.heap.size) (hr : Row w g Ai img.length (bv img)) (ha : MS s kk P Z (.slice Ai img.length c) g b w w) :
    Calls Tryz.prog 98 #[.pointer (some ⟨b, 0, none⟩)] w fun e w' => e = .returned (.tuple #[]) ∧ Hid (∃ A2 c2, w'.heap[g]? = some (.cells (headC s kk P Z (.slice Ai img.length c) 0 1 (.slice A2 (kk + P) c2)) 111 (0, 0)) ∧ PW (allC s kk P Z img) w.heap.size (.slice A2 (kk + P) c2) w' ∧ But w.heap.size g w w') := by
  have KA := Lib.hid ha
  have HS := Lib.hid hs
  have HK := Lib.hid hK
  have HP := Lib.hid hP
  have HZ := Lib.hid hZ
  have HCN := Lib.hid hc
  have HIC := Lib.hid hi
  have HG := Lib.hid hg
  have HIR : Hid (∀ W, MS s kk P Z (.slice Ai img.length c) g b w W → Row W g Ai img.length (bv img)) := Lib.hid fun W hW => hr.but (hW.bt.mono (Nat.le_of_lt hg)) (fun q o e hn => by
    obtain ⟨q2, o2, e2, hl, _⟩ := hr.2 hn
    rw [e] at e2; injection e2 with e2; injection e2 with e2; omega)
  have HF : Hid (∀ W, MS s kk P Z (.slice Ai img.length c) g b w W → W.cell? ⟨b, 0, none⟩ = some (.pointer (some ⟨g, 0, none⟩)) ∧ W.cell? ⟨g, 0, none⟩ = some (.int .u32 (s : Int)) ∧ W.cell? ⟨g, 1, none⟩ = some (.int .i64 (kk : Int)) ∧ W.cell? ⟨g, 2, none⟩ = some (.int .i64 (P : Int)) ∧ W.cell? ⟨g, 3, none⟩ = some (.int .i64 (Z : Int)) ∧ W.cell? ⟨g, 4, none⟩ = some (.slice Ai img.length c)) := Lib.hid fun W hW => hW.cells
  clear ha hs hK hP hZ hc hi hg hr
  go_enter Tryz.func98, Tryz.ntmps98
  refine wp_region_noPanic ?_
  refine wp_region_held_drew (S := (fun W => MS s kk P Z (.slice Ai img.length c) g b w W)) (by kernel_rfl) (KA.out.below (Below.refl _ _).drew) (fun hH0 => ?_)
  have hH0 : MS s kk P Z (.slice Ai img.length c) g b w w.drew := hH0
  generalize w.drew = wd4000 at *
  refine wpAnyH_take (i := 0) (oi := { dst := some 1, op := Op.load 59 (Operand.tmp 0), type := 59, pos := "code.go:71", after := #[], guard := none }) (v := ?tkv4001) rfl (by kernel_rfl) (by kernel_rfl) (by kernel_rfl) (fun _ _ _ h => h) (Or.inl ⟨by rfl, ?tky4001⟩) hH0 ?tkr4001
  case tky4001 => (intro w' hSw; have z0 := HF.out _ hSw; clear hSw; go_simp; try with_reducible rfl)
  try simp only [Act.put, List.setIfInBounds_toArray, List.set_cons_zero, List.set_cons_succ]
  refine wpAnyH_take (i := 1) (oi := { dst := some 2, op := Op.load 59 (Operand.tmp 0), type := 59, pos := "code.go:71", after := #[], guard := none }) (v := ?tkv4002) rfl (by kernel_rfl) (by kernel_rfl) (by kernel_rfl) (fun _ _ _ h => h) (Or.inl ⟨by rfl, ?tky4002⟩) hH0 ?tkr4002
  case tky4002 => (intro w' hSw; have z0 := HF.out _ hSw; clear hSw; go_simp; try with_reducible rfl)
  try simp only [Act.put, List.setIfInBounds_toArray, List.set_cons_zero, List.set_cons_succ]
  refine wpAnyH_take (i := 2) (oi := { dst := some 3, op := Op.nilCheck (Operand.tmp 2), type := 0, pos := "code.go:71", after := #[{ on := 1, ground := Ground.data }], guard := none }) (v := ?tkv4003) rfl (by kernel_rfl) (by kernel_rfl) (by kernel_rfl) (fun _ _ _ h => h) (Or.inl ⟨by rfl, ?tky4003⟩) hH0 ?tkr4003
  case tky4003 => (intro w' hSw; clear hSw; go_simp; try with_reducible rfl)
  try simp only [Act.put, List.setIfInBounds_toArray, List.set_cons_zero, List.set_cons_succ]
  refine wpAnyH_take (i := 3) (oi := { dst := some 4, op := Op.fieldAddr 111 (Operand.tmp 3) 0, type := 0, pos := "code.go:71", after := #[{ on := 2, ground := Ground.data }], guard := none }) (v := ?tkv4004) rfl (by kernel_rfl) (by kernel_rfl) (by kernel_rfl) (fun _ _ _ h => h) (Or.inl ⟨by rfl, ?tky4004⟩) hH0 ?tkr4004
  case tky4004 => (intro w' hSw; clear hSw; go_simp; try with_reducible rfl)
  try simp only [Act.put, List.setIfInBounds_toArray, List.set_cons_zero, List.set_cons_succ]
  refine wpAnyH_take (i := 4) (oi := { dst := some 5, op := Op.load 35 (Operand.tmp 4), type := 35, pos := "code.go:71", after := #[{ on := 3, ground := Ground.data }], guard := none }) (v := ?tkv4005) rfl (by kernel_rfl) (by kernel_rfl) (by kernel_rfl) (fun _ _ _ h => h) (Or.inl ⟨by rfl, ?tky4005⟩) hH0 ?tkr4005
  case tky4005 => (intro w' hSw; have z0 := HF.out _ hSw; clear hSw; go_simp; try with_reducible rfl)
  try simp only [Act.put, List.setIfInBounds_toArray, List.set_cons_zero, List.set_cons_succ]
  refine wpAnyH_take (i := 5) (oi := { dst := some 6, op := Op.load 59 (Operand.tmp 0), type := 59, pos := "code.go:71", after := #[], guard := none }) (v := ?tkv4006) rfl (by kernel_rfl) (by kernel_rfl) (by kernel_rfl) (fun _ _ _ h => h) (Or.inl ⟨by rfl, ?tky4006⟩) hH0 ?tkr4006
  case tky4006 => (intro w' hSw; have z0 := HF.out _ hSw; clear hSw; go_simp; try with_reducible rfl)
  try simp only [Act.put, List.setIfInBounds_toArray, List.set_cons_zero, List.set_cons_succ]
  refine wpAnyH_take (i := 6) (oi := { dst := some 7, op := Op.nilCheck (Operand.tmp 6), type := 0, pos := "code.go:71", after := #[{ on := 5, ground := Ground.data }], guard := none }) (v := ?tkv4007) rfl (by kernel_rfl) (by kernel_rfl) (by kernel_rfl) (fun _ _ _ h => h) (Or.inl ⟨by rfl, ?tky4007⟩) hH0 ?tkr4007
  case tky4007 => (intro w' hSw; clear hSw; go_simp; try with_reducible rfl)
  try simp only [Act.put, List.setIfInBounds_toArray, List.set_cons_zero, List.set_cons_succ]
  refine wpAnyH_take (i := 7) (oi := { dst := some 8, op := Op.fieldAddr 111 (Operand.tmp 7) 1, type := 0, pos := "code.go:71", after := #[{ on := 6, ground := Ground.data }], guard := none }) (v := ?tkv4008) rfl (by kernel_rfl) (by kernel_rfl) (by kernel_rfl) (fun _ _ _ h => h) (Or.inl ⟨by rfl, ?tky4008⟩) hH0 ?tkr4008
  case tky4008 => (intro w' hSw; clear hSw; go_simp; try with_reducible rfl)
  try simp only [Act.put, List.setIfInBounds_toArray, List.set_cons_zero, List.set_cons_succ]
  refine wpAnyH_take (i := 8) (oi := { dst := some 9, op := Op.load 22 (Operand.tmp 8), type := 22, pos := "code.go:71", after := #[{ on := 7, ground := Ground.data }], guard := none }) (v := ?tkv4009) rfl (by kernel_rfl) (by kernel_rfl) (by kernel_rfl) (fun _ _ _ h => h) (Or.inl ⟨by rfl, ?tky4009⟩) hH0 ?tkr4009
  case tky4009 => (intro w' hSw; have z0 := HF.out _ hSw; clear hSw; go_simp; try with_reducible rfl)
  try simp only [Act.put, List.setIfInBounds_toArray, List.set_cons_zero, List.set_cons_succ]
  refine wpAnyH_take (i := 9) (oi := { dst := some 10, op := Op.load 59 (Operand.tmp 0), type := 59, pos := "code.go:71", after := #[], guard := none }) (v := ?tkv4010) rfl (by kernel_rfl) (by kernel_rfl) (by kernel_rfl) (fun _ _ _ h => h) (Or.inl ⟨by rfl, ?tky4010⟩) hH0 ?tkr4010
  case tky4010 => (intro w' hSw; have z0 := HF.out _ hSw; clear hSw; go_simp; try with_reducible rfl)
  try simp only [Act.put, List.setIfInBounds_toArray, List.set_cons_zero, List.set_cons_succ]
  refine wpAnyH_take (i := 10) (oi := { dst := some 11, op := Op.nilCheck (Operand.tmp 10), type := 0, pos := "code.go:71", after := #[{ on := 9, ground := Ground.data }], guard := none }) (v := ?tkv4011) rfl (by kernel_rfl) (by kernel_rfl) (by kernel_rfl) (fun _ _ _ h => h) (Or.inl ⟨by rfl, ?tky4011⟩) hH0 ?tkr4011
  case tky4011 => (intro w' hSw; clear hSw; go_simp; try with_reducible rfl)
  try simp only [Act.put, List.setIfInBounds_toArray, List.set_cons_zero, List.set_cons_succ]
  refine wpAnyH_take (i := 11) (oi := { dst := some 12, op := Op.fieldAddr 111 (Operand.tmp 11) 0, type := 0, pos := "code.go:71", after := #[{ on := 10, ground := Ground.data }], guard := none }) (v := ?tkv4012) rfl (by kernel_rfl) (by kernel_rfl) (by kernel_rfl) (fun _ _ _ h => h) (Or.inl ⟨by rfl, ?tky4012⟩) hH0 ?tkr4012
  case tky4012 => (intro w' hSw; clear hSw; go_simp; try with_reducible rfl)
  try simp only [Act.put, List.setIfInBounds_toArray, List.set_cons_zero, List.set_cons_succ]
  refine wpAnyH_take (i := 12) (oi := { dst := some 13, op := Op.fieldAddr 35 (Operand.tmp 12) 3, type := 0, pos := "code.go:71", after := #[{ on := 11, ground := Ground.data }], guard := none }) (v := ?tkv4013) rfl (by kernel_rfl) (by kernel_rfl) (by kernel_rfl) (fun _ _ _ h => h) (Or.inl ⟨by rfl, ?tky4013⟩) hH0 ?tkr4013
  case tky4013 => (intro w' hSw; clear hSw; go_simp; try with_reducible rfl)
  try simp only [Act.put, List.setIfInBounds_toArray, List.set_cons_zero, List.set_cons_succ]
  refine wpAnyH_take (i := 13) (oi := { dst := some 14, op := Op.load 3 (Operand.tmp 13), type := 3, pos := "code.go:71", after := #[{ on := 12, ground := Ground.data }], guard := none }) (v := ?tkv4014) rfl (by kernel_rfl) (by kernel_rfl) (by kernel_rfl) (fun _ _ _ h => h) (Or.inl ⟨by rfl, ?tky4014⟩) hH0 ?tkr4014
  case tky4014 => (intro w' hSw; have z0 := HF.out _ hSw; clear hSw; go_simp; try with_reducible rfl)
  try simp only [Act.put, List.setIfInBounds_toArray, List.set_cons_zero, List.set_cons_succ]
  refine wpAnyH_ready (rs := [14]) (by kernel_rfl) (by simp) ?_
  refine AllReadyH.cons (o := { dst := some 15, op := Op.call { callee := Callee.value (Operand.func 100), args := #[Operand.tmp 9, Operand.tmp 14], argTypes := #[22, 3] }, type := 78, pos := "code.go:71", after := #[{ on := 8, ground := Ground.data }, { on := 13, ground := Ground.data }], guard := none }) rfl (fun K hK => ?_) AllReadyH.nil
  go_simp
  obtain ⟨gs4015, hgs4015⟩ : ∃ x, wd4000.heap.size = x := ⟨_, rfl⟩
  refine (split_at gs4015 g img.length c Z kk Ai img wd4000 hgs4015 (HIR.out _ (hH0)) HIC.out.1 HIC.out.2 HCN.out (Nat.lt_of_lt_of_le Nat.zero_lt_one HK.out.1) (Nat.le_trans (Nat.le_of_lt HG.out) (hH0).size)).mono ?_
  rintro e' wn4015 ⟨rfl, hsp4015⟩
  have hb4015 : Below wd4000.heap.size wd4000 wn4015 := by rw [hgs4015]; exact hsp4015.2.2.2
  have HR4015 : Hid (Rows2 wn4015 wn4015.heap.size (some ⟨gs4015, 0, none⟩) kk (splitRows img Z kk gs4015)) := Lib.hid hsp4015.rows
  have HL4015 : Hid ((splitRows img Z kk gs4015).map (·.l) = pcsL img Z kk) := Lib.hid (by simp [splitRows, pcsL])
  have HE4015 : Hid (∀ r ∈ splitRows img Z kk gs4015, r.n = Z) := Lib.hid (by intro r hr; simp only [splitRows, List.mem_map] at hr; obtain ⟨j, _, rfl⟩ := hr; rfl)
  generalize splitRows img Z kk gs4015 = es4015 at *
  clear hsp4015 hgs4015
  go_simp
  have hS4015 : MS s kk P Z (.slice Ai img.length c) g b w wn4015 := (hH0).below hb4015
  refine hK.out _ _ hS4015 (fun hH4015 => ?_)
  have hH4015 : MS s kk P Z (.slice Ai img.length c) g b w wn4015 := hH4015
  clear hK K hS4015
  try simp only [Act.put, List.setIfInBounds_toArray, List.set_cons_zero, List.set_cons_succ]
  refine wpAnyH_ready (rs := [15]) (by kernel_rfl) (by simp) ?_
  refine AllReadyH.cons (o := { dst := some 16, op := Op.call { callee := Callee.value (Operand.func 99), args := #[Operand.tmp 5, Operand.tmp 15], argTypes := #[35, 78] }, type := 78, pos := "code.go:71", after := #[{ on := 4, ground := Ground.data }, { on := 14, ground := Ground.data }, { on := 14, ground := Ground.chain }], guard := none }) rfl (fun K hK => ?_) AllReadyH.nil
  go_simp
  refine (pieces_yes s kk P Z kk wn4015.heap.size _ es4015 wn4015 HS.out HK.out HP.out HZ.out HR4015.out HE4015.out (Nat.le_refl _)).mono ?_
  rintro e' wn4016 ⟨v4016, rfl, hp4016, hb4016'⟩
  have hb4016 : Below wn4015.heap.size wn4015 wn4016 := hb4016'.out
  rw [HL4015.out] at hp4016
  obtain ⟨Av4016, cv4016, _, hv4016, _⟩ := hp4016.out.rows
  rw [show (allP s kk Z (pcsL img Z kk) P).length = kk + P from allC_length s kk P Z img] at hv4016
  subst hv4016
  have HP4016 : Hid (PW (allC s kk P Z img) w.heap.size (.slice Av4016 (kk + P) cv4016) wn4016) := Lib.hid (hp4016.out.mono (hH4015).size)
  clear hp4016
  go_simp
  have hS4016 : MS s kk P Z (.slice Ai img.length c) g b w wn4016 := (hH4015).below hb4016
  refine hK.out _ _ hS4016 (fun hH4016 => ?_)
  have hH4016 : MS s kk P Z (.slice Ai img.length c) g b w wn4016 := hH4016
  clear hK K hS4016
  try simp only [Act.put, List.setIfInBounds_toArray, List.set_cons_zero, List.set_cons_succ]
  refine wpAnyH_take (i := 16) (oi := { dst := some 17, op := Op.nilCheck (Operand.tmp 1), type := 0, pos := "code.go:71", after := #[{ on := 0, ground := Ground.data }, { on := 0, ground := Ground.phase }, { on := 1, ground := Ground.phase }, { on := 2, ground := Ground.phase }, { on := 3, ground := Ground.phase }, { on := 4, ground := Ground.phase }, { on := 5, ground := Ground.phase }, { on := 6, ground := Ground.phase }, { on := 7, ground := Ground.phase }, { on := 8, ground := Ground.phase }, { on := 9, ground := Ground.phase }, { on := 10, ground := Ground.phase }, { on := 11, ground := Ground.phase }, { on := 12, ground := Ground.phase }, { on := 13, ground := Ground.phase }, { on := 14, ground := Ground.phase }, { on := 15, ground := Ground.phase }], guard := none }) (v := ?tkv4017) rfl (by kernel_rfl) (by kernel_rfl) (by kernel_rfl) (fun _ _ _ h => h) (Or.inl ⟨by rfl, ?tky4017⟩) hH4016 ?tkr4017
  case tky4017 => (intro w' hSw; clear hSw; go_simp; try with_reducible rfl)
  try simp only [Act.put, List.setIfInBounds_toArray, List.set_cons_zero, List.set_cons_succ]
  refine wpAnyH_take (i := 17) (oi := { dst := some 18, op := Op.fieldAddr 111 (Operand.tmp 17) 3, type := 0, pos := "code.go:71", after := #[{ on := 16, ground := Ground.data }, { on := 0, ground := Ground.phase }, { on := 1, ground := Ground.phase }, { on := 2, ground := Ground.phase }, { on := 3, ground := Ground.phase }, { on := 4, ground := Ground.phase }, { on := 5, ground := Ground.phase }, { on := 6, ground := Ground.phase }, { on := 7, ground := Ground.phase }, { on := 8, ground := Ground.phase }, { on := 9, ground := Ground.phase }, { on := 10, ground := Ground.phase }, { on := 11, ground := Ground.phase }, { on := 12, ground := Ground.phase }, { on := 13, ground := Ground.phase }, { on := 14, ground := Ground.phase }, { on := 15, ground := Ground.phase }], guard := none }) (v := ?tkv4018) rfl (by kernel_rfl) (by kernel_rfl) (by kernel_rfl) (fun _ _ _ h => h) (Or.inl ⟨by rfl, ?tky4018⟩) hH4016 ?tkr4018
  case tky4018 => (intro w' hSw; clear hSw; go_simp; try with_reducible rfl)
  try simp only [Act.put, List.setIfInBounds_toArray, List.set_cons_zero, List.set_cons_succ]
  refine wpAnyH_ready (rs := [18]) (by kernel_rfl) (by simp) ?_
  refine AllReadyH.cons (o := { dst := none, op := Op.store 78 (Operand.tmp 18) (Operand.tmp 16), type := 0, pos := "code.go:71", after := #[{ on := 17, ground := Ground.data }, { on := 15, ground := Ground.data }, { on := 15, ground := Ground.chain }, { on := 0, ground := Ground.phase }, { on := 1, ground := Ground.phase }, { on := 2, ground := Ground.phase }, { on := 3, ground := Ground.phase }, { on := 4, ground := Ground.phase }, { on := 5, ground := Ground.phase }, { on := 6, ground := Ground.phase }, { on := 7, ground := Ground.phase }, { on := 8, ground := Ground.phase }, { on := 9, ground := Ground.phase }, { on := 10, ground := Ground.phase }, { on := 11, ground := Ground.phase }, { on := 12, ground := Ground.phase }, { on := 13, ground := Ground.phase }, { on := 14, ground := Ground.phase }, { on := 15, ground := Ground.phase }], guard := none }) rfl (fun K hK => ?_) AllReadyH.nil
  obtain ⟨vo4019, hx4019⟩ := (hH4016).x
  have cc4019 := cell_at hx4019 (p := 8) rfl
  have cf4019 := frozen_of_row wn4016 g 8 _ _ hx4019
  go_simp
  have hS4019 : MS s kk P Z (.slice Ai img.length c) g b w (wn4016.setCell ⟨g, 8, none⟩ (.slice Av4016 (kk + P) cv4016)) := ((hH4016).store _)
  refine hK.out _ _ hS4019 (fun hH4019 => ?_)
  have hH4019 : MS s kk P Z (.slice Ai img.length c) g b w (wn4016.setCell ⟨g, 8, none⟩ (.slice Av4016 (kk + P) cv4016)) := hH4019
  clear hK K hS4019
  refine wpAnyH_done (by kernel_rfl) ?_ _
  refine NoPanic.normal ?_
  have hfin := (hH4016).store (.slice Av4016 (kk + P) cv4016)
  have hfx : (wn4016.setCell ⟨g, 8, none⟩ (.slice Av4016 (kk + P) cv4016)).heap[g]? = some (.cells (headC s kk P Z (.slice Ai img.length c) 0 1 (.slice Av4016 (kk + P) cv4016)) 111 (0, 0)) := by
    obtain ⟨vo, hx⟩ := (hH4016).x
    exact heap_setCell_same _ g 8 _ _ (.slice Av4016 (kk + P) cv4016) hx
  have hpw := HP4016.out.set (b := g) (i := 8) (u := (.slice Av4016 (kk + P) cv4016)) HG.out
  go_wp2_with fail
  go_end0
  exact ⟨rfl, Lib.hid ⟨Av4016, cv4016, hfx, hpw, hfin.bt⟩⟩
end Go.Proofs.YtidcnoejihjgjaaGreatDoor.Cd
