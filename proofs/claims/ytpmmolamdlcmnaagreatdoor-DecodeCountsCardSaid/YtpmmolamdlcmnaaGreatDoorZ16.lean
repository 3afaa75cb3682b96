/- Contracts of the functions that the law calls, part 16. -/
import Derived.Test.YtpmmolamdlcmnaaGreatDoorZ15
namespace Go.Proofs.YtpmmolamdlcmnaaGreatDoor.Cd
open Go.RowKit
open VecM RdM Vc Sp Pc
/-- a head that has its pieces, in the rows of a list -/
def HMv (s K P Z : Nat) (img : List UInt8) (W : World) (B g : Nat) (A : Option Addr) (c : Nat) : Prop :=
  ∃ iv, W.heap[g]? = some (.cells (headC s K P Z iv 1 0 (.slice A (K + P) c)) 85 (0, 0)) ∧ PW (allC s K P Z img) B (.slice A (K + P) c) W ∧ g < B
theorem HMv.hm {s K P Z : Nat} {img : List UInt8} {W : World} {B g : Nat} {A : Option Addr} {c : Nat} (h : HMv s K P Z img W B g A c) : HM s K P Z img W B g := by
  obtain ⟨iv, h1, h2, h3⟩ := h
  exact ⟨iv, A, c, h1, h2, h3⟩
theorem HM.hv {s K P Z : Nat} {img : List UInt8} {W : World} {B g : Nat} (h : HM s K P Z img W B g) : ∃ A c, HMv s K P Z img W B g A c := by
  obtain ⟨iv, A, c, h1, h2, h3⟩ := h
  exact ⟨A, c, iv, h1, h2, h3⟩
theorem HMv.lt {s K P Z : Nat} {img : List UInt8} {W : World} {B g : Nat} {A : Option Addr} {c : Nat} (h : HMv s K P Z img W B g A c) : g < W.heap.size := h.hm.lt
theorem HMv.below {s K P Z : Nat} {img : List UInt8} {W W' : World} {B g : Nat} {A : Option Addr} {c : Nat} (h : HMv s K P Z img W B g A c) (hb : Below W.heap.size W W') : HMv s K P Z img W' B g A c := by
  have hl := h.lt
  obtain ⟨iv, h1, h2, h3⟩ := h
  exact ⟨iv, (hb.block g hl).trans h1, h2.below hb, h3⟩
theorem HF.ne_tab {s K P Z : Nat} {img : List UInt8} {W : World} {g : Nat} (h : HF s K P Z img W g) (ht : DTab W) : g ≠ 0 := by
  intro e
  obtain ⟨A, c, h1, _⟩ := h
  have h2 := ht.2 0 (by omega)
  have h3 := cell_at h1 (p := 0) rfl
  rw [e] at h3
  rw [h3] at h2
  injection h2 with h2
  injection h2 with h2
  cases h2
theorem DTab.but {w w' : World} {B g : Nat} (h : DTab w) (hb : But B g w w') (hB : w.heap.size ≤ B) (hg : g ≠ 0) : DTab w' :=
  ⟨Nat.lt_of_lt_of_le h.1 hb.size, fun j hj => by rw [World.cell?_of_block (w := w) (a := ⟨0, j, none⟩) (hb.block _ (Nat.lt_of_lt_of_le h.1 hB) (fun e => hg e.symm))]; exact h.2 j hj⟩
theorem results_cell1 {fn : Func} {p : Tmp} {ty : TypeId} (h : fn.results = #[.cell p ty]) (tmps : Array Value) (P : Program) (w : World) :
    (results fn tmps).run P w = ((asAddr (tmps.getD p undef)).run P w).andThen fun a w₁ => (loadVar ty a).run P w₁ := by
  simp only [results, h]
  simp [Sem.run_bind, Result.andThen]
theorem results_cell_one {P : Program} {fn : Func} {p : Tmp} {ty : TypeId} (h : fn.results = #[.cell p ty]) (tmps : Array Value) (w : World) (g : Nat) (t : TypeId) (cs : Array Value) (fr : Nat × Nat) (d : TypeDesc)
    (hp : tmps.getD p undef = .pointer (some ⟨g, 0, none⟩)) (hg : w.heap[g]? = some (.cells cs t fr))
    (hu : P.underlying ty = some d) (hd : (match d with | .struct _ | .array _ _ => true | _ => false) = true) (hi : (P.info? ty).map (·.size) = some cs.size) :
    (results fn tmps).run P w = .ok (.agg cs) w := by
  rw [results_cell1 h, hp]
  simp [asAddr, Result.andThen, run_loadVar_row w g t ty cs fr d hg hu hd hi]
def MadeOk (s K P Z : Nat) (img : List UInt8) (g B : Nat) (R : World → Prop) (e : Ending) (w' : World) : Prop :=
  ∃ A c, e = .returned (.slice A (K + P) c) ∧ Hid (HMv s K P Z img w' B g A c) ∧ Hid (R w')
set_option maxRecDepth 100000 in
set_option maxHeartbeats 800000 in
theorem made_done (s K P Z c g B : Nat) (A : Option Addr) (img : List UInt8) (w : World) (h : HMv s K P Z img w B g A c) :
    Calls Tryz.prog 49 #[.pointer (some ⟨g, 0, none⟩)] w (MadeOk s K P Z img g B (fun W => Below w.heap.size w W)) := by
  have hb0 : Below w.heap.size w (w.alloc (.cells #[.pointer (some ⟨g, 0, none⟩)] 39)) := (Below.refl _ _).alloc (Nat.le_refl _) _
  have H1 := Lib.hid (h.below hb0)
  have hx := heap_alloc_new w (.cells #[.pointer (some ⟨g, 0, none⟩)] 39)
  have HBX := Lib.hid hx
  have HB0 := Lib.hid hb0
  obtain ⟨iv, h1, _, _⟩ := H1.out
  have HH := Lib.hid h1
  have HD := Lib.hid (do_done_gen g 5 85 _ (.func (.func 73) #[] #[.pointer (some ⟨w.heap.size, 0, none⟩)]) _ h1 rfl)
  have hc := cell_at hx (p := 0) rfl
  clear h hb0 hx h1
  go_enter Tryz.func49, Tryz.ntmps49
  go_upto_region 1 with fail
  generalize (w.alloc (.cells #[.pointer (some ⟨g, 0, none⟩)] 39)) = w1 at *
  go_wp2_with (go_at_call 26; refine HD.out.mono ?_; rintro e w' ⟨rfl, rfl⟩; have hv := cell_at HH.out (p := 8) rfl)
  go_ret
  exact ⟨A, c, rfl, H1, HB0⟩
def OnceR (s K P Z : Nat) (img : List UInt8) (g : Nat) (iv : Value) (w w2 : World) : Prop := ∃ A2 c2, w2.heap[g]? = some (.cells (headC s K P Z iv 0 1 (.slice A2 (K + P) c2)) 85 (0, 0)) ∧ PW (allC s K P Z img) w.heap.size (.slice A2 (K + P) c2) w2 ∧ But w.heap.size g w w2
theorem once_end {s K P Z g : Nat} {img : List UInt8} {iv : Value} {w w2 : World} (h : OnceR s K P Z img g iv w w2) (hg : g < w.heap.size) : ∃ A c, HMv s K P Z img ((w2.drew.setCell ⟨g, 5, none⟩ (.int .u32 1)).setCell ⟨g, 6, none⟩ (.int .i32 0)) w.heap.size g A c ∧ But w.heap.size g w ((w2.drew.setCell ⟨g, 5, none⟩ (.int .u32 1)).setCell ⟨g, 6, none⟩ (.int .i32 0)) := by
  obtain ⟨A, c, h1, h2, h3⟩ := h
  have h1d : w2.drew.heap[g]? = some (.cells (headC s K P Z iv 0 1 (.slice A (K + P) c)) 85 (0, 0)) := h1
  have e1 := heap_setCell_same w2.drew g 5 _ _ (.int .u32 1) h1d
  have e2 := heap_setCell_same _ g 6 _ _ (.int .i32 0) e1
  have h2d : PW (allC s K P Z img) w.heap.size (.slice A (K + P) c) w2.drew := h2.below (Below.refl _ _).drew
  exact ⟨A, c, ⟨iv, e2, (h2d.set hg).set hg, hg⟩, ((h3.trans (But.of_below (Below.refl _ _).drew)).setSelf 5 _).setSelf 6 _⟩
theorem once_start {s K P Z c g : Nat} {img : List UInt8} {A : Option Addr} {w : World} (h1 : w.heap[g]? = some (.cells (headC s K P Z (.slice A img.length c) 0 0 (.slice none 0 0)) 85 (0, 0))) (h2 : Row w g A img.length (bv img)) :
    ∃ w1, ((w.alloc (.cells #[.pointer (some ⟨g, 0, none⟩)] 39)).setCell ⟨g, 6, none⟩ (.int .i32 1)) = w1 ∧ w1.heap.size = w.heap.size + 1 ∧ Row w1 g A img.length (bv img) ∧ MS s K P Z (.slice A img.length c) g w.heap.size w1 w1 ∧ But w.heap.size g w w1 := by
  have hl := (Array.getElem?_eq_some_iff.1 h1).1
  have hb : Below w.heap.size w (w.alloc (.cells #[.pointer (some ⟨g, 0, none⟩)] 39)) := (Below.refl _ _).alloc (Nat.le_refl _) _
  have hx := heap_alloc_new w (.cells #[.pointer (some ⟨g, 0, none⟩)] 39)
  have hg1 := (hb.block g hl).trans h1
  refine ⟨_, rfl, by simp, h2.below ((hb.mono (Nat.le_of_lt hl)).setCell (Nat.le_refl _) _), ⟨But.refl _ _ _, (heap_setCell_other _ _ _ _ (Nat.ne_of_gt hl)).trans hx, _, heap_setCell_same _ g 6 _ _ _ hg1⟩, (But.of_below hb).setSelf 6 _⟩
set_option maxRecDepth 100000 in
set_option maxHeartbeats 800000 in
theorem made_first (s K P Z g : Nat) (img : List UInt8) (w : World) (hs : s < 4294967296) (hK : 1 ≤ K ∧ K ≤ 64) (hP : P ≤ 16) (hZ : 1 ≤ Z ∧ Z ≤ 16) (hc : BlkM.count (img.length : Int) (Z : Int) = K) (h : HF s K P Z img w g) :
    Calls Tryz.prog 49 #[.pointer (some ⟨g, 0, none⟩)] w (MadeOk s K P Z img g (w.heap.size + 1) (fun W => But w.heap.size g w W)) := by
  have hlt := h.lt
  obtain ⟨A, c, h1, h2, h3⟩ := h
  obtain ⟨w1, hw1, hz1, hr1, hm1, hbt1⟩ := once_start h1 h2
  have hx := heap_alloc_new w (.cells #[.pointer (some ⟨g, 0, none⟩)] 39)
  have hb : Below w.heap.size w (w.alloc (.cells #[.pointer (some ⟨g, 0, none⟩)] 39)) := (Below.refl _ _).alloc (Nat.le_refl _) _
  have hg1 := (hb.block g hlt).trans h1
  have hone := (made1_any s K P Z c g w.heap.size A img w1 hs hK hP hZ hc h3 (by omega) hr1 hm1).mono (R' := fun e w2 => e = .returned (.tuple #[]) ∧ Hid (OnceR s K P Z img g (.slice A img.length c) w1 w2) ∧ Hid (Locked g 5 85 w2)) (by
    rintro e w2 ⟨rfl, A2, c2, q1, q2, q3⟩
    exact ⟨rfl, Lib.hid ⟨A2, c2, q1, q2, q3⟩, Lib.hid ⟨_, q1, rfl, rfl⟩⟩)
  have HDO := Lib.hid (do_gen g 5 85 _ (.pointer (some ⟨w.heap.size, 0, none⟩)) (OnceR s K P Z img g (.slice A img.length c) w1) _ hg1 rfl rfl (by rw [hw1]; exact hone))
  have hcb := cell_at hx (p := 0) rfl
  have HW1 := Lib.hid hw1
  have HZ1 := Lib.hid hz1
  have HBT1 := Lib.hid hbt1
  have HLT := Lib.hid hlt
  have HNE : Hid (w.heap.size ≠ g) := Lib.hid (by omega)
  have HR1 : Hid (∀ w2, OnceR s K P Z img g (.slice A img.length c) w1 w2 → w2.cell? ⟨w.heap.size, 0, none⟩ = some (.pointer (some ⟨g, 0, none⟩))) := Lib.hid fun w2 hw2 => by
    obtain ⟨_, _, _, _, hq⟩ := hw2
    exact cell_at ((hq.block _ (by omega) (by omega)).trans hm1.bx) rfl
  clear hs hK hP hZ hc h1 h2 h3 hw1 hz1 hr1 hm1 hbt1 hx hb hg1 hone hlt
  go_enter Tryz.func49, Tryz.ntmps49
  go_upto_region 1 with fail
  generalize (w.alloc (.cells #[.pointer (some ⟨g, 0, none⟩)] 39)) = w0 at *
  go_wp2_with fail
  refine HDO.out.mono ?_
  rintro e w3 ⟨rfl, w2, hR, rfl⟩
  obtain ⟨A9, c9, hm9, hb9⟩ := once_end hR.out (by have := HZ1.out; have := HLT.out; omega)
  have hcb2 : ((w2.drew.setCell ⟨g, 5, none⟩ (.int .u32 1)).setCell ⟨g, 6, none⟩ (.int .i32 0)).cell? ⟨w.heap.size, 0, none⟩ = some (.pointer (some ⟨g, 0, none⟩)) := by
    have hbk : ((w2.drew.setCell ⟨g, 5, none⟩ (.int .u32 1)).setCell ⟨g, 6, none⟩ (.int .i32 0)).heap[w.heap.size]? = w2.drew.heap[w.heap.size]? := (heap_setCell_other _ _ _ _ HNE.out).trans (heap_setCell_other _ _ _ _ HNE.out)
    rw [World.cell?_of_block (a := ⟨w.heap.size, 0, none⟩) hbk]
    exact HR1.out w2 hR.out
  have hcv : ((w2.drew.setCell ⟨g, 5, none⟩ (.int .u32 1)).setCell ⟨g, 6, none⟩ (.int .i32 0)).cell? ⟨g, 8, none⟩ = some (.slice A9 (K + P) c9) := by
    obtain ⟨iv, q, _⟩ := hm9
    exact cell_at q rfl
  have HE : Hid (But w.heap.size g w ((w2.drew.setCell ⟨g, 5, none⟩ (.int .u32 1)).setCell ⟨g, 6, none⟩ (.int .i32 0))) := Lib.hid (HBT1.out.trans (hb9.mono (by have := HZ1.out; omega)))
  have HM9 := Lib.hid hm9
  rw [HZ1.out] at HM9
  clear hR hm9 hb9 HDO hcb
  generalize ((w2.drew.setCell ⟨g, 5, none⟩ (.int .u32 1)).setCell ⟨g, 6, none⟩ (.int .i32 0)) = wf at *
  go_wp2_with fail
  go_ret
  exact ⟨A9, c9, rfl, HM9, HE⟩
set_option maxRecDepth 100000 in
theorem made_nil (w : World) : Calls Tryz.prog 49 #[.pointer none] w fun e w' => e = .returned (.slice none 0 0) ∧ Hid (Below w.heap.size w w') := by
  have hx := heap_alloc_new w (.cells #[.pointer none] 39)
  have hb : Below w.heap.size w (w.alloc (.cells #[.pointer none] 39)) := (Below.refl _ _).alloc (Nat.le_refl _) _
  have HB := Lib.hid hb
  have hc := cell_at hx (p := 0) rfl
  clear hb hx
  go_enter Tryz.func49, Tryz.ntmps49
  go_upto_region 1 with fail
  generalize (w.alloc (.cells #[.pointer none] 39)) = w0 at *
  go_wp2_with fail
  go_ret
  exact ⟨rfl, HB⟩
set_option maxRecDepth 100000 in
set_option maxHeartbeats 800000 in
theorem known_any (s K P Z g : Nat) (iv v : Value) (d m : Int) (w : World) (h : w.heap[g]? = some (.cells (headC s K P Z iv d m v) 85 (0, 0))) :
    Calls Tryz.prog 50 #[.pointer (some ⟨g, 0, none⟩)] w fun e w' => e = .returned (parV s K P Z) ∧ Hid (Below w.heap.size w w') := by
  have hl := (Array.getElem?_eq_some_iff.1 h).1
  have hx := heap_alloc_new w (.cells #[.int .u32 0, .int .i64 0, .int .i64 0, .int .i64 0] 35)
  have hb : Below w.heap.size w (w.alloc (.cells #[.int .u32 0, .int .i64 0, .int .i64 0, .int .i64 0] 35)) := (Below.refl _ _).alloc (Nat.le_refl _) _
  have h1 := (hb.block g hl).trans h
  have c0 : (w.alloc (.cells #[.int .u32 0, .int .i64 0, .int .i64 0, .int .i64 0] 35)).cell? ⟨g, 0, none⟩ = some (.int .u32 (s : Int)) := cell_at h1 (p := 0) rfl
  have c1 : (w.alloc (.cells #[.int .u32 0, .int .i64 0, .int .i64 0, .int .i64 0] 35)).cell? ⟨g, 1, none⟩ = some (.int .i64 (K : Int)) := cell_at h1 (p := 1) rfl
  have c2 : (w.alloc (.cells #[.int .u32 0, .int .i64 0, .int .i64 0, .int .i64 0] 35)).cell? ⟨g, 2, none⟩ = some (.int .i64 (P : Int)) := cell_at h1 (p := 2) rfl
  have c3 : (w.alloc (.cells #[.int .u32 0, .int .i64 0, .int .i64 0, .int .i64 0] 35)).cell? ⟨g, 3, none⟩ = some (.int .i64 (Z : Int)) := cell_at h1 (p := 3) rfl
  have HX := Lib.hid hx
  have HB := Lib.hid hb
  obtain ⟨b0, b1, b2, b3⟩ := box4 hx
  obtain ⟨f0, f1, f2, f3⟩ := frozenBox hx
  clear h hl hb h1 hx
  go_enter Tryz.func50, Tryz.ntmps50
  go_upto_region 1 with fail
  generalize (w.alloc (.cells #[.int .u32 0, .int .i64 0, .int .i64 0, .int .i64 0] 35)) = w0 at *
  go_wp2_with fail
  have hrow := setBox HX.out (.int .u32 (s : Int)) (.int .i64 (K : Int)) (.int .i64 (P : Int)) (.int .i64 (Z : Int))
  refine bodyPost_ret (results_cell_one rfl _ _ (w.heap.size) _ _ (0, 0) _ rfl hrow Tryz.underlying35 rfl (by kernel_rfl)) rfl ?_
  exact ⟨rfl, ((((HB.out.setCell (Nat.le_refl _) _).setCell (Nat.le_refl _) _).setCell (Nat.le_refl _) _).setCell (Nat.le_refl _) _)⟩
set_option maxRecDepth 100000 in
set_option maxHeartbeats 800000 in
theorem known_nil (w : World) : Calls Tryz.prog 50 #[.pointer none] w fun e w' => e = .returned (parV 0 0 0 0) ∧ Hid (Below w.heap.size w w') := by
  have hx := heap_alloc_new w (.cells #[.int .u32 0, .int .i64 0, .int .i64 0, .int .i64 0] 35)
  have hb : Below w.heap.size w (w.alloc (.cells #[.int .u32 0, .int .i64 0, .int .i64 0, .int .i64 0] 35)) := (Below.refl _ _).alloc (Nat.le_refl _) _
  have HX := Lib.hid hx
  have HB := Lib.hid hb
  obtain ⟨b0, b1, b2, b3⟩ := box4 hx
  obtain ⟨f0, f1, f2, f3⟩ := frozenBox hx
  clear hb hx
  go_enter Tryz.func50, Tryz.ntmps50
  go_upto_region 1 with fail
  generalize (w.alloc (.cells #[.int .u32 0, .int .i64 0, .int .i64 0, .int .i64 0] 35)) = w0 at *
  go_wp2_with fail
  have hrow := setBox HX.out (.int .u32 0) (.int .i64 0) (.int .i64 0) (.int .i64 0)
  refine bodyPost_ret (results_cell_one rfl _ _ (w.heap.size) _ _ (0, 0) _ rfl hrow Tryz.underlying35 rfl (by kernel_rfl)) rfl ?_
  exact ⟨rfl, ((((HB.out.setCell (Nat.le_refl _) _).setCell (Nat.le_refl _) _).setCell (Nat.le_refl _) _).setCell (Nat.le_refl _) _)⟩
end Go.Proofs.YtpmmolamdlcmnaaGreatDoor.Cd
namespace Go.Proofs.YtpmmolamdlcmnaaGreatDoor.Cd
open Go.RowKit
open VecM RdM Vc Sp Pc
def brow0 : BRow := ⟨none, 0, 0, []⟩
/-- what may happen to memory, however much comes behind -/
def Grows (R : World → Prop) (w : World) : Prop := (∀ W W', R W → Below W.heap.size W W' → R W') ∧ (∀ W, R W → w.heap.size ≤ W.heap.size) ∧ (∀ W, R W → DTab W)
def SymOk (s K P Z : Nat) (img : List UInt8) (id g B : Nat) (R : World → Prop) (w : World) (e : Ending) (w' : World) : Prop :=
  ∃ A n c, e = .returned (.slice A n c) ∧ Hid (n = (symX s K P Z img id).length) ∧ Hid (w'.ownsRow w.heap.size 5 1 (.slice A n c) n (bv (symX s K P Z img id))) ∧ Hid (HM s K P Z img w' B g) ∧ Hid (R w')
theorem ls_take (X k : Nat) (h : k < (Ls X).length) : (Ls X).take (k + 1) = (Ls X).take k ++ [(Ls X).getD k 0] := by
  rw [List.take_succ_eq_append_getElem h, List.getD_eq_getElem?_getD, List.getElem?_eq_getElem h]; rfl
set_option maxRecDepth 100000 in
set_option maxHeartbeats 3200000 in
theorem sym_gen (s K P Z id g B : Nat) (img : List UInt8) (R : World → Prop) (w : World) (hs : s < 4294967296) (hid : id < 4294967296) (hK : 1 ≤ K ∧ K ≤ 64) (hP : P ≤ 16) (hZ : 1 ≤ Z ∧ Z ≤ 16)
    (hR : Grows R w) (hm : Calls Tryz.prog 49 #[.pointer (some ⟨g, 0, none⟩)] w (MadeOk s K P Z img g B R)) :
    Calls Tryz.prog 21 #[.pointer (some ⟨g, 0, none⟩), .int .u32 (id : Int)] w (SymOk s K P Z img id g B R w) := by
  obtain ⟨i0, hi, hz0, hz1, hz2⟩ := info_parts Tryz.info23
  have HMD := Lib.hid hm
  have HRR := Lib.hid hR
  have HS := Lib.hid hs
  have HID := Lib.hid hid
  have HK := Lib.hid hK
  have HP := Lib.hid hP
  have HZ := Lib.hid hZ
  clear hm hR hs hid hK hP hZ
  go_enter Tryz.func21, Tryz.ntmps21
  go_wp2_with fail
  refine HMD.out.mono ?_
  rintro e w1 ⟨A, c, rfl, hv1, hr1⟩
  obtain ⟨iv, hh1, hpw1, hgB⟩ := hv1.out
  have HKN := Lib.hid (known_any s K P Z g iv _ 1 0 w1 hh1)
  clear HMD hh1
  go_wp2_with fail
  refine HKN.out.mono ?_
  rintro e w2 ⟨rfl, hb2⟩
  have HROW := Lib.hid (row_any s id K P Z w2 HS.out HID.out HK.out HP.out HZ.out)
  clear HKN
  go_wp2_with fail
  refine HROW.out.mono ?_
  rintro e w3 ⟨gv, hv, rfl, hgv, hhv, hvec, hb3⟩
  have hR3 : R w3 := HRR.out.1 _ _ (HRR.out.1 _ _ hr1.out hb2.out) hb3.out
  have HLS := Lib.hid (list_any gv hv (K + P) _ w3 hvec.out (HRR.out.2.2 _ hR3))
  clear HROW hgv hhv
  go_wp2_with fail
  refine HLS.out.mono ?_
  rintro e w4 ⟨A4, c4, rfl, hown4, hb4⟩
  have hR4 : R w4 := HRR.out.1 _ _ hR3 hb4.out
  have HB4 : Hid (Below w1.heap.size w1 w4) := Lib.hid (hb2.out.trans ((hb3.out.mono hb2.out.size).trans (hb4.out.mono (Nat.le_trans hb2.out.size hb3.out.size))))
  obtain ⟨A', c', es, hve, hes, hrows, _⟩ := hpw1.rows
  rw [allC_length] at hve hrows
  injection hve with e1 e2 e3
  subst e1 e3
  have HROWS := Lib.hid (hrows.below (hb := HB4.out))
  have HES := Lib.hid hes
  have HR4 := Lib.hid hR4
  have HV4 := Lib.hid (hv1.out.below HB4.out)
  have HL4 := Lib.hid (Row.of_own hown4.out)
  have HSZ4 : Hid (w1.heap.size ≤ w4.heap.size) := Lib.hid HB4.out.size
  have HMEM : Hid (∀ i ∈ Ls (spX s K P id), i < K + P) := Lib.hid fun i hi => Ls_lt hi
  have HC : Hid ((Ls (spX s K P id)).length ≤ 256) := Lib.hid (L_le _ 256)
  have HSY : Hid (symX s K P Z img id = sumF ((Ls (spX s K P id)).map fun i => (allC s K P Z img).getD i [])) := Lib.hid rfl
  have HCN : Hid (1 ≤ (Ls (spX s K P id)).length) := Lib.hid (spX_count HK.out.1 (by have := HK.out; have := HP.out; omega)).1
  have HTK := Lib.hid (fun k => ls_take (spX s K P id) k)
  clear HLS hown4 hR3 hR4 hb2 hb3 hb4 hvec hr1 hpw1 hrows hes hv1 HB4
  generalize spX s K P id = X at *
  obtain ⟨ls, hls⟩ : ∃ l, Ls X = l := ⟨_, rfl⟩
  rw [hls] at HL4 HMEM HC HSY HCN HTK ⊢
  clear hls
  obtain ⟨m, hmm⟩ : ∃ m, ls.length = m := ⟨_, rfl⟩
  have HM := Lib.hid hmm
  rw [hmm] at HL4 HC HCN HTK ⊢
  have hm256 : m ≤ 256 := HC.out
  clear hmm
  have hG : w.heap.size ≤ w4.heap.size := HRR.out.2.1 _ HR4.out
  have HG := Lib.hid hG
  go_wp2_with fail
  go_loopw [5, 17] (fun v i wr => ∃ k : Nat, k ≤ m ∧ i = .int .i64 k ∧ Hid (wr.ownsRow w4.heap.size 23 1 v k ((ls.take k).map fun i => (es.getD i brow0).val)) ∧ Hid (Below w4.heap.size w4 wr)) (fun _ i _ => m - (intOf i).toNat)
  case atStart => exact ⟨0, by omega, rfl, Lib.hid (World.ownsRow_nil _ _ _ _), Lib.hid (Below.refl _ _)⟩
  case round =>
    obtain ⟨k, hk, rfl, hown, hbk⟩ := hrel
    have hsz := hbk.out.size
    by_cases hlt : k < m
    · obtain ⟨b, o, rfl, _, hcell⟩ := (HL4.out.below hbk.out).cellAt hlt (u := .int .i64 ((ls.getD k 0 : Nat) : Int)) (by
        have hk2 : k < ls.length := by rw [HM.out]; exact hlt
        simp [nv, hk2, List.getD])
      have hmem : ls.getD k 0 ∈ ls := getD_mem (by rw [HM.out]; exact hlt)
      have hin := HMEM.out _ hmem
      have htk := HTK.out k hlt
      have HTKK := Lib.hid htk
      generalize ls.getD k 0 = i at *
      obtain ⟨b2, o2, rfl, r, hr, hcell2, hrow⟩ := (HROWS.out.below (hbk.out.mono HSZ4.out)).at_ hin
      have hrd : (es.getD i brow0) = r := by simp [List.getD, hr]
      have HRD := Lib.hid hrd
      have HOW := Lib.hid hown.out
      obtain ⟨Av, cv, rfl, _⟩ := own_slice hown.out
      have hki : (k : Int) < (m : Int) := by omega
      have hii : (i : Int) < ((K + P : Nat) : Int) := by omega
      have hK1 := HK.out
      have hP1 := HP.out
      clear hown hmem htk hr hrow hrd
      go_wp2_with (at_builtin; refine wpList_app rfl (.tmp 21) (.tmp 26) 71 rfl w4.heap.size 23 i0 (.slice none 0 0) 24 Tryz.underlying71 hi hz0 hz1 hz2 rfl _ k _ rfl (own_below HOW.out ((Below.refl _ _).alloc (Nat.le_refl _) _)) _ _ 1 1 _ rfl (row_new wr _ _ _) (by intro u hu; simp at hu; subst hu; rfl) (by unfold maxLen; omega) (by omega) (Nat.le_trans hsz ((Below.refl _ _).alloc (Nat.le_refl _) _).size) ?_; intro v6 w6 hown6 hg6 hat6)
      have hbW : Below w4.heap.size w4 (wr.alloc (.cells #[.slice r.A r.n r.c] 23)) := hbk.out.alloc hsz _
      have hnext : Hid (w6.ownsRow w4.heap.size 23 1 v6 (k + 1) ((ls.take (k + 1)).map fun i => (es.getD i brow0).val)) := by
        rw [HTKK.out, List.map_append, List.map_singleton, HRD.out]
        exact Lib.hid hown6
      have hbn : Hid (Below w4.heap.size w4 w6) := Lib.hid (below_app hbW hbW.size (own_below HOW.out ((Below.refl _ _).alloc (Nat.le_refl _) _)) (Nat.le_refl _) hg6)
      clear hown6 hg6 hat6 hbW HOW hbk
      go_wp2_with fail
      go_roundw
      case rel => exact ⟨k + 1, by omega, by go_num, hnext, hbn⟩
      case measure => simp [intOf]; omega
    · obtain rfl : m = k := by omega
      clear hlt
      obtain ⟨Av, cv, rfl, hcv, hcv2, _⟩ := own_slice hown.out
      have hfin := hown.out
      rw [List.take_of_length_le (by rw [HM.out]; exact Nat.le_refl _)] at hfin
      obtain ⟨fs, hfs⟩ : ∃ fs : List BRow, fs = ls.map fun i => es.getD i brow0 := ⟨_, rfl⟩
      have hfl : fs.length = m := by rw [hfs, List.length_map]; exact HM.out
      have h2 : Rows2 wr wr.heap.size Av m fs := by
        refine ⟨?_, fun r hr => ?_⟩
        · have := Row.of_own hfin
          rw [hfs, List.map_map]; exact this
        · rw [hfs] at hr
          obtain ⟨i, hi2, rfl⟩ := List.mem_map.1 hr
          obtain ⟨_, _, _, r, hr2, _, hrow⟩ := (HROWS.out.below (hbk.out.mono HSZ4.out)).at_ (HMEM.out i hi2)
          have : es.getD i brow0 = r := by simp [List.getD, hr2]
          rw [this]; exact hrow.more (Nat.le_trans HSZ4.out hsz)
      have hfm : fs.map (·.l) = ls.map fun i => (allC s K P Z img).getD i [] := by
        rw [hfs, List.map_map]
        apply List.map_congr_left
        intro i hi2
        rw [← HES.out]
        simp only [Function.comp, List.getD_eq_getElem?_getD, List.getElem?_map]
        cases es[i]? <;> rfl
      cases fs with
      | nil => exact absurd hfl (by have := HCN.out; simp; omega)
      | cons r0 fs =>
        obtain ⟨m', rfl⟩ : ∃ m', m = m' + 1 := ⟨m - 1, by have := HCN.out; omega⟩
        have hrn : r0.n = Z := by
          rw [← (h2.2 r0 (by simp)).blen]
          have h5 : r0.l ∈ ls.map fun i => (allC s K P Z img).getD i [] := by rw [← hfm]; simp
          obtain ⟨i, hi2, e5⟩ := List.mem_map.1 h5
          rw [← e5]
          exact allC_zi (HMEM.out i hi2)
        have HSUM := Lib.hid (sum_some wr.heap.size m' cv Av r0 fs wr h2 hcv (by unfold maxLen at hcv2; omega) (Nat.le_refl _) (by have := HZ.out; omega))
        rw [hfm, ← HSY.out] at HSUM
        have HBK := hbk
        have HSZ := Lib.hid hsz
        clear hfin hfs hfl h2 hfm hrn hown hcv hcv2 hbk hsz
        go_wp2_with fail
        refine HSUM.out.mono ?_
        rintro e w7 ⟨A7, n7, c7, rfl, hn7, hown7, hb7⟩
        have HO7 := Lib.hid (own_base hown7 (Nat.le_trans HG.out HSZ.out))
        have HM7 := Lib.hid ((HV4.out.below HBK.out).below hb7).hm
        have HR7 := Lib.hid (HRR.out.1 _ _ (HRR.out.1 _ _ HR4.out HBK.out) hb7)
        have HN7 := Lib.hid hn7
        clear HSUM hown7 hb7 hn7
        go_wp2_with fail
        go_ret
        exact ⟨A7, n7, c7, rfl, HN7, HO7, HM7, HR7⟩
end Go.Proofs.YtpmmolamdlcmnaaGreatDoor.Cd
namespace Go.Proofs.YtpmmolamdlcmnaaGreatDoor.Cd
open Go.RowKit
open VecM RdM Vc Sp Pc
set_option maxRecDepth 100000 in
set_option maxHeartbeats 800000 in
theorem sym_nil (id : Nat) (w : World) : Calls Tryz.prog 21 #[.pointer none, .int .u32 (id : Int)] w (FreshBytes w.heap.size [] w) := by
  go_enter Tryz.func21, Tryz.ntmps21
  go_wp2_with fail
  refine (made_nil w).mono ?_
  rintro e w1 ⟨rfl, hb1⟩
  go_wp2_with fail
  refine (known_nil w1).mono ?_
  rintro e w2 ⟨rfl, hb2⟩
  have HB2 := Lib.hid (hb1.out.trans (hb2.out.mono hb1.out.size))
  clear hb1 hb2
  go_wp2_with fail
  refine (row_no 0 id 0 0 0 w2 (by decide)).mono ?_
  rintro e w3 ⟨rfl, hb3⟩
  have HB3 := Lib.hid (HB2.out.trans (hb3.out.mono HB2.out.size))
  clear hb3
  go_wp2_with fail
  refine (list_nil w3).mono ?_
  rintro e w4 ⟨rfl, rfl⟩
  go_wp2_with fail
  go_loopw [5, 17] (fun v i wr => v = .slice none 0 0 ∧ i = .int .i64 0 ∧ w3 = wr) (fun _ _ _ => 0)
  case atStart => exact ⟨rfl, rfl, rfl⟩
  case round =>
    obtain ⟨rfl, rfl, rfl⟩ := hrel
    go_wp2_with fail
    refine (sum_none 0 none w3).mono ?_
    rintro e w5 ⟨A5, n5, c5, rfl, hn5, hown5, hb5⟩
    have HO := Lib.hid (own_base hown5 HB3.out.size)
    have HE := Lib.hid (HB3.out.trans (hb5.mono HB3.out.size))
    have HN := Lib.hid hn5
    clear hown5 hb5 hn5
    go_wp2_with fail
    go_ret
    exact ⟨A5, n5, c5, rfl, HN.out, HO.out, HE.out⟩
def PcsOkH (s K P Z : Nat) (img : List UInt8) (g B : Nat) (R : World → Prop) (w : World) (e : Ending) (w' : World) : Prop :=
  ∃ A c, e = .returned (.slice A (K + P) c) ∧ Hid (PW (allC s K P Z img) w.heap.size (.slice A (K + P) c) w') ∧ Hid (HM s K P Z img w' B g) ∧ Hid (R w')
/-- the head that was made anew; the one that was asked -/
theorem grows_but {s K P Z : Nat} {img : List UInt8} {w : World} {g : Nat} (h : HF s K P Z img w g) (ht : DTab w) : Grows (fun W => But w.heap.size g w W) w :=
  ⟨fun _ _ h1 hb => h1.trans (But.of_below (hb.mono h1.size)), fun _ h1 => h1.size, fun _ h1 => DTab.but ht h1 (Nat.le_refl _) (h.ne_tab ht)⟩
theorem grows_below {w : World} (ht : DTab w) : Grows (fun W => Below w.heap.size w W) w :=
  ⟨fun _ _ h1 hb => h1.trans (hb.mono h1.size), fun _ h1 => h1.size, fun _ h1 => ht.grow h1⟩
end Go.Proofs.YtpmmolamdlcmnaaGreatDoor.Cd
namespace Go.Proofs.YtpmmolamdlcmnaaGreatDoor.Cd
open Go.RowKit
open VecM RdM Vc Sp Pc
/-- Q was true of memory when it ended at U at most; its blocks from B to U are as they were -/
def Kept (Q : World → Prop) (B U : Nat) (W : World) : Prop := ∃ W0, Q W0 ∧ W0.heap.size ≤ U ∧ U ≤ W.heap.size ∧ ∀ b, B ≤ b → b < U → W.heap[b]? = W0.heap[b]?
theorem Kept.new {Q : World → Prop} {W : World} (h : Q W) (B : Nat) : Kept Q B W.heap.size W := ⟨W, h, Nat.le_refl _, Nat.le_refl _, fun _ _ _ => rfl⟩
theorem Kept.below {Q : World → Prop} {B U : Nat} {W W' : World} (h : Kept Q B U W) (hb : Below W.heap.size W W') : Kept Q B U W' := by
  obtain ⟨W0, h1, h2, h3, h4⟩ := h
  exact ⟨W0, h1, h2, Nat.le_trans h3 hb.size, fun b hb1 hb2 => (hb.block b (Nat.lt_of_lt_of_le hb2 h3)).trans (h4 b hb1 hb2)⟩
theorem Kept.but {Q : World → Prop} {B U g : Nat} {W W' : World} (h : Kept Q B U W) (hb : But W.heap.size g W W') (hg : g < B ∨ U ≤ g) : Kept Q B U W' := by
  obtain ⟨W0, h1, h2, h3, h4⟩ := h
  exact ⟨W0, h1, h2, Nat.le_trans h3 hb.size, fun b hb1 hb2 => (hb.block b (Nat.lt_of_lt_of_le hb2 h3) (by rcases hg with h | h <;> omega)).trans (h4 b hb1 hb2)⟩
theorem Kept.drew {Q : World → Prop} {B U : Nat} {W : World} (h : Kept Q B U W) : Kept Q B U W.drew := h
theorem own_keep2 {W W' : World} {base n c : Nat} {e : TypeId} {A : Option Addr} {xs : List Value} (h : W.ownsRow base e 1 (.slice A n c) n xs) (hk : ∀ b, base ≤ b → b < W.heap.size → W'.heap[b]? = W.heap[b]?) : W'.ownsRow base e 1 (.slice A n c) n xs := by
  refine ⟨h.1, ?_⟩
  rcases h.2 with h0 | ⟨g, cap, cur, hv, hb, hg, r⟩
  · exact .inl h0
  · refine .inr ⟨g, cap, cur, hv, hb, ?_, r⟩
    rw [hk g hb (Array.getElem?_eq_some_iff.1 hg).1]
    exact hg
theorem PW.keep2 {ls : List (List UInt8)} {B n c : Nat} {A : Option Addr} {W W' : World} (h : PW ls B (.slice A n c) W) (hn : ls.length = n) (hk : ∀ b, B ≤ b → b < W.heap.size → W'.heap[b]? = W.heap[b]?) : PW ls B (.slice A n c) W' := by
  subst hn
  obtain ⟨es, h1, h2, h3⟩ := h
  refine ⟨es, h1, own_keep2 h2 hk, fun r hr => ?_⟩
  obtain ⟨g, a, q, o⟩ := h3 r hr
  exact ⟨g, a, q, own_keep2 o hk⟩
theorem Kept.own {base n c U : Nat} {e : TypeId} {A : Option Addr} {xs : List Value} {W : World} (h : Kept (fun W => W.ownsRow base e 1 (.slice A n c) n xs) base U W) : W.ownsRow base e 1 (.slice A n c) n xs := by
  obtain ⟨W0, h1, h2, h3, h4⟩ := h
  exact own_keep2 h1 fun b hb1 hb2 => h4 b hb1 (Nat.lt_of_lt_of_le hb2 h2)
theorem Kept.pw {ls : List (List UInt8)} {B n c U : Nat} {A : Option Addr} {W : World} (h : Kept (PW ls B (.slice A n c)) B U W) (hn : ls.length = n) : PW ls B (.slice A n c) W := by
  obtain ⟨W0, h1, h2, h3, h4⟩ := h
  exact PW.keep2 h1 hn fun b hb1 hb2 => h4 b hb1 (Nat.lt_of_lt_of_le hb2 h2)
theorem Kept.hf {s K P Z B U g : Nat} {img : List UInt8} {W : World} (h : Kept (HFq s K P Z img B g) B U W) : HF s K P Z img W g := by
  obtain ⟨W0, h1, h2, h3, h4⟩ := h
  exact (h1.keep fun b hb1 hb2 => h4 b hb1 (Nat.lt_of_lt_of_le hb2 h2)).hf
end Go.Proofs.YtpmmolamdlcmnaaGreatDoor.Cd
namespace Go.Proofs.YtpmmolamdlcmnaaGreatDoor.Dc
open Go.RowKit
open VecM RdM Vc Sp Pc El Cd
/-- an object, in blocks of which a predicate says so -/
abbrev Obj := World → (Nat → Prop) → Prop
def Keeps (Q : Obj) : Prop := ∀ (W W' : World) (F : Nat → Prop), Q W F → (∀ b, F b → b < W.heap.size → W'.heap[b]? = W.heap[b]?) → W.heap.size ≤ W'.heap.size → Q W' F
/-- three objects, apart, made since world w0 -/
def Sep3 (A B C : Obj) (w0 W : World) : Prop :=
  ∃ F G H, A W F ∧ B W G ∧ C W H ∧ (∀ b, F b → G b → False) ∧ (∀ b, F b → H b → False) ∧ (∀ b, G b → H b → False) ∧ (∀ b, F b ∨ G b ∨ H b → w0.heap.size ≤ b ∧ b < W.heap.size) ∧ Below w0.heap.size w0 W
def noObj : Obj := fun _ _ => True
theorem keeps_no : Keeps noObj := fun _ _ _ _ _ _ => trivial
theorem Sep3.start (w : World) : Sep3 noObj noObj noObj w w := ⟨fun _ => False, fun _ => False, fun _ => False, trivial, trivial, trivial, fun _ h => h.elim, fun _ h => h.elim, fun _ h => h.elim, fun _ h => by rcases h with h | h | h <;> exact h.elim, Below.refl _ _⟩
theorem Sep3.rot {A B C : Obj} {w0 W : World} (h : Sep3 A B C w0 W) : Sep3 B C A w0 W := by
  obtain ⟨F, G, H, a, b, c, h1, h2, h3, h4, h5⟩ := h
  exact ⟨G, H, F, b, c, a, h3, fun q x y => h1 q y x, fun q x y => h2 q y x, fun q hq => h4 q (by rcases hq with h | h | h; exact .inr (.inl h); exact .inr (.inr h); exact .inl h), h5⟩
theorem Sep3.swap {A B C : Obj} {w0 W : World} (h : Sep3 A B C w0 W) : Sep3 B A C w0 W := by
  obtain ⟨F, G, H, a, b, c, h1, h2, h3, h4, h5⟩ := h
  exact ⟨G, F, H, b, a, c, fun q x y => h1 q y x, h3, h2, fun q hq => h4 q (by rcases hq with h | h | h; exact .inr (.inl h); exact .inl h; exact .inr (.inr h)), h5⟩
theorem Sep3.b {A B C : Obj} {w0 W : World} (h : Sep3 A B C w0 W) : Below w0.heap.size w0 W := by
  obtain ⟨F, G, H, a, b, c, h1, h2, h3, h4, h5⟩ := h
  exact h5
theorem Sep3.below {A B C : Obj} {w0 W W' : World} (h : Sep3 A B C w0 W) (kA : Keeps A) (kB : Keeps B) (kC : Keeps C) (hb : Below W.heap.size W W') : Sep3 A B C w0 W' := by
  obtain ⟨F, G, H, a, b, c, h1, h2, h3, h4, h5⟩ := h
  exact ⟨F, G, H, kA W W' F a (fun q _ hl => hb.block q hl) hb.size, kB W W' G b (fun q _ hl => hb.block q hl) hb.size, kC W W' H c (fun q _ hl => hb.block q hl) hb.size, h1, h2, h3, fun q hq => ⟨(h4 q hq).1, Nat.lt_of_lt_of_le (h4 q hq).2 hb.size⟩, h5.trans (hb.mono h5.size)⟩
/-- a call on the first one -/
theorem Sep3.first2 {A B C : Obj} {w0 w : World} (h : Sep3 A B C w0 w) (kB : Keeps B) (kC : Keeps C) :
    ∃ F, A w F ∧ (∀ b, F b → w0.heap.size ≤ b) ∧ (∀ b, F b → b < w.heap.size) ∧ ∀ (w' : World) (A' : Obj), A' w' (fun b => F b ∨ (w.heap.size ≤ b ∧ b < w'.heap.size)) → Fr w w' F → Sep3 A' B C w0 w' := by
  obtain ⟨F, G, H, a, b, c, h1, h2, h3, h4, h5⟩ := h
  refine ⟨F, a, fun q hq => (h4 q (.inl hq)).1, fun q hq => (h4 q (.inl hq)).2, fun w' A' ha hf => ⟨_, G, H, ha, kB w w' G b (fun q hq hl => hf.block q hl fun hF => h1 q hF hq) hf.size, kC w w' H c (fun q hq hl => hf.block q hl fun hF => h2 q hF hq) hf.size, ?_, ?_, h3, ?_, ?_⟩⟩
  · rintro q (hq | hq) hg
    · exact h1 q hq hg
    · have := (h4 q (.inr (.inl hg))).2; omega
  · rintro q (hq | hq) hg
    · exact h2 q hq hg
    · have := (h4 q (.inr (.inr hg))).2; omega
  · have hs := hf.size
    have hs5 := h5.size
    rintro q ((hq | hq) | hq | hq)
    · have := h4 q (.inl hq); exact ⟨this.1, by omega⟩
    · exact ⟨by omega, hq.2⟩
    · have := h4 q (.inr (.inl hq)); exact ⟨this.1, by omega⟩
    · have := h4 q (.inr (.inr hq)); exact ⟨this.1, by omega⟩
  · exact h5.trans (hf.below (fun q hq => (h4 q (.inl hq)).1) h5.size)
theorem Sep3.first {A B C : Obj} {w0 w : World} (h : Sep3 A B C w0 w) (kB : Keeps B) (kC : Keeps C) :
    ∃ F, A w F ∧ (∀ b, F b → w0.heap.size ≤ b) ∧ ∀ (w' : World) (A' : Obj), A' w' (fun b => F b ∨ (w.heap.size ≤ b ∧ b < w'.heap.size)) → Fr w w' F → Sep3 A' B C w0 w' := by
  obtain ⟨F, a, b, _, d⟩ := h.first2 kB kC
  exact ⟨F, a, b, d⟩
/-- an object that is made -/
theorem Sep3.create {A B C : Obj} {w0 w w' : World} (h : Sep3 A B C w0 w) (kB : Keeps B) (kC : Keeps C) (hb : Below w.heap.size w w') {A' : Obj} (ha : A' w' (fun b => w.heap.size ≤ b ∧ b < w'.heap.size)) : Sep3 A' B C w0 w' := by
  obtain ⟨F, G, H, a, b, c, h1, h2, h3, h4, h5⟩ := h
  have hs := hb.size
  have hs5 := h5.size
  refine ⟨_, G, H, ha, kB w w' G b (fun q _ hl => hb.block q hl) hs, kC w w' H c (fun q _ hl => hb.block q hl) hs, ?_, ?_, h3, ?_, h5.trans (hb.mono hs5)⟩
  · rintro q hq hg
    have := (h4 q (.inr (.inl hg))).2; omega
  · rintro q hq hg
    have := (h4 q (.inr (.inr hg))).2; omega
  · rintro q (hq | hq | hq)
    · exact ⟨by omega, hq.2⟩
    · have := h4 q (.inr (.inl hq)); exact ⟨this.1, by omega⟩
    · have := h4 q (.inr (.inr hq)); exact ⟨this.1, by omega⟩
def decO (gd s K P Z : Nat) (M : Mx) (t : Nat) : Obj := fun W F => IsDec W F gd s K P Z M t
theorem keeps_dec (gd s K P Z : Nat) (M : Mx) (t : Nat) : Keeps (decO gd s K P Z M t) := fun _ _ _ h hk _ => IsDec.keep h hk
def matO (gm n z : Nat) (M : Mx) : Obj := fun W F => IsMat W F gm n z M
theorem keeps_mat (gm n z : Nat) (M : Mx) : Keeps (matO gm n z M) := fun _ _ _ h hk _ => IsMat.keep h hk
/-- a head, asked or not -/
def headO (s K P Z : Nat) (img : List UInt8) (g : Nat) : Obj := fun W H => H g ∧ g < W.heap.size ∧ ∀ W' : World, (∀ b, H b → b < W.heap.size → W'.heap[b]? = W.heap[b]?) → W.heap.size ≤ W'.heap.size → HF s K P Z img W' g ∨ ∃ B, HM s K P Z img W' B g
theorem keeps_head (s K P Z : Nat) (img : List UInt8) (g : Nat) : Keeps (headO s K P Z img g) := fun W W' F h hk hs =>
  ⟨h.1, Nat.lt_of_lt_of_le h.2.1 hs, fun W2 h2 hs2 => h.2.2 W2 (fun b hb hl => (h2 b hb (Nat.lt_of_lt_of_le hl hs)).trans (hk b hb hl)) (Nat.le_trans hs hs2)⟩
theorem head_new {s K P Z B g : Nat} {img : List UInt8} {W : World} (h : HFq s K P Z img B g W) (hg : B ≤ g) : headO s K P Z img g W (fun b => B ≤ b ∧ b < W.heap.size) :=
  ⟨⟨hg, h.hf.lt⟩, h.hf.lt, fun W' hk _ => .inl (h.keep fun b hb hl => hk b ⟨hb, hl⟩ hl).hf⟩
theorem head_done {s K P Z B g : Nat} {img : List UInt8} {W : World} (h : HM s K P Z img W B g) : headO s K P Z img g W (fun b => b = g ∨ (B ≤ b ∧ b < W.heap.size)) := by
  have hlt := h.lt
  obtain ⟨iv, A, c, h1, h2, h3⟩ := h
  exact ⟨.inl rfl, hlt, fun W' hk _ => .inr ⟨B, iv, A, c, (hk g (.inl rfl) hlt).trans h1, PW.keep2 h2 (allC_length _ _ _ _ _) fun b hb hl => hk b (.inr ⟨hb, hl⟩) hl, h3⟩⟩
theorem headO.more {s K P Z g : Nat} {img : List UInt8} {W : World} {H H' : Nat → Prop} (h : headO s K P Z img g W H) (hh : ∀ b, H b → H' b) : headO s K P Z img g W H' :=
  ⟨hh g h.1, h.2.1, fun W' hk hs => h.2.2 W' (fun b hb hl => hk b (hh b hb) hl) hs⟩
def SymH (s K P Z : Nat) (img : List UInt8) (id g : Nat) (H : Nat → Prop) (w : World) (e : Ending) (w' : World) : Prop :=
  ∃ A c, e = .returned (.slice A Z c) ∧ Hid (w'.ownsRow w.heap.size 5 1 (.slice A Z c) Z (bv (symX s K P Z img id))) ∧ Hid (headO s K P Z img g w' (fun b => H b ∨ (w.heap.size ≤ b ∧ b < w'.heap.size))) ∧ Hid (Fr w w' H)
theorem DTab.frm {w0 w w' : World} {F : Nat → Prop} (h : DTab w0) (hb : Below w0.heap.size w0 w) (hf : Fr w w' F) (hF : ∀ b, F b → w0.heap.size ≤ b) : DTab w' :=
  h.grow (hb.trans (hf.below hF hb.size))
/-- a symbol of it -/
theorem symH {s K P Z id g : Nat} {img : List UInt8} {H : Nat → Prop} {w : World} (h : headO s K P Z img g w H) (hs : s < 4294967296) (hid : id < 4294967296) (hK : 1 ≤ K ∧ K ≤ 64) (hP : P ≤ 16) (hZ : 1 ≤ Z ∧ Z ≤ 16) (hc : BlkM.count (img.length : Int) (Z : Int) = K) (ht : DTab w) :
    Calls Tryz.prog 21 #[.pointer (some ⟨g, 0, none⟩), .int .u32 (id : Int)] w (SymH s K P Z img id g H w) := by
  rcases h.2.2 w (fun _ _ _ => rfl) (Nat.le_refl _) with hf | ⟨B, hm⟩
  · refine (sym_gen s K P Z id g _ img _ w hs hid hK hP hZ (grows_but hf ht) (made_first s K P Z g img w hs hK hP hZ hc hf)).mono ?_
    rintro e w' ⟨A, n, c, rfl, hn, ho, hm, hr⟩
    obtain rfl : Z = n := (hn.out.trans (symX_length hK.1 (by omega))).symm
    refine ⟨A, c, rfl, ho, Lib.hid ((head_done hm.out).more fun b hb => ?_), Lib.hid ⟨hr.out.os, hr.out.tape, hr.out.output, hr.out.size, fun b hl hn => hr.out.block b hl fun e => hn (by rw [e]; exact h.1)⟩⟩
    rcases hb with hb | hb
    · exact .inl (by rw [hb]; exact h.1)
    · exact .inr ⟨by omega, hb.2⟩
  · obtain ⟨A0, c0, hv⟩ := hm.hv
    refine (sym_gen s K P Z id g _ img _ w hs hid hK hP hZ (grows_below ht) (made_done s K P Z c0 g _ A0 img w hv)).mono ?_
    rintro e w' ⟨A, n, c, rfl, hn, ho, _, hr⟩
    obtain rfl : Z = n := (hn.out.trans (symX_length hK.1 (by omega))).symm
    exact ⟨A, c, rfl, ho, Lib.hid ((keeps_head s K P Z img g w w' H h (fun b _ hl => hr.out.block b hl) hr.out.size).more fun b hb => .inl hb), Lib.hid (Fr.of_below hr.out)⟩
end Go.Proofs.YtpmmolamdlcmnaaGreatDoor.Dc
namespace Go.Proofs.YtpmmolamdlcmnaaGreatDoor.Dc
open Go.RowKit
open VecM RdM Vc Sp Pc El Cd
theorem aw12_1 : (addMx (2 + 1) (matR 1 2 1 2 1) (spX 1 2 1 1) [3, 0]).2 = true := by decide +kernel
theorem aw12_2 : (addMx (2 + 1) (addMx (2 + 1) (matR 1 2 1 2 1) (spX 1 2 1 1) [3, 0]).1 (spX 1 2 1 0) [1, 2]).2 = true := by decide +kernel
theorem aw12_3 : rankM (addMx (2 + 1) (addMx (2 + 1) (matR 1 2 1 2 1) (spX 1 2 1 1) [3, 0]).1 (spX 1 2 1 0) [1, 2]).1 = 2 + 1 := by decide +kernel
theorem aw12_4 : joinLs ((solM (addMx (2 + 1) (addMx (2 + 1) (matR 1 2 1 2 1) (spX 1 2 1 1) [3, 0]).1 (spX 1 2 1 0) [1, 2]).1).take 2) 3 = [1, 2, 3] := by decide +kernel
theorem cnt32 : BlkM.count 3 2 = 2 := by decide +kernel
theorem fr_below {w0 w w' : World} {F : Nat → Prop} (hb : Below w0.heap.size w0 w) (hf : Fr w w' F) (hF : ∀ b, F b → w0.heap.size ≤ b) : Below w0.heap.size w0 w' := hb.trans (hf.below hF hb.size)
set_option maxRecDepth 100000 in
set_option maxHeartbeats 1600000 in
theorem awake12_any (w : World) (ht : DTab w) : Calls Tryz.prog 13 #[] w fun e w' => e = .returned (.bool true) ∧ Hid (Below w.heap.size w w') := by
  have HT := Lib.hid ht
  clear ht
  go_enter Tryz.func13, Tryz.ntmps13
  go_wp2_with fail
  refine (newD 1 2 1 2 w (by omega) ⟨by omega, by omega⟩ (by omega) ⟨by omega, by omega⟩ HT.out).mono ?_
  rintro e w1 ⟨gd, rfl, hd1, hi1, hb1⟩
  have S1 := Lib.hid ((Sep3.start w).create (A' := decO gd 1 2 1 2 _ 0) keeps_no keeps_no hb1.out hd1.out)
  have HI1 := Lib.hid hi1.out
  clear hd1 hi1 hb1
  obtain ⟨⟨M1, b1⟩, hR1⟩ : ∃ R, addMx (2 + 1) (matR 1 2 1 2 1) (spX 1 2 1 1) [3, 0] = R := ⟨_, rfl⟩
  have e1 := aw12_1
  have e2 := aw12_2
  have e3 := aw12_3
  have e4 := aw12_4
  rw [hR1] at e1 e2 e3 e4
  obtain rfl : b1 = true := e1
  obtain ⟨⟨M2, b2⟩, hR2⟩ : ∃ R, addMx (2 + 1) M1 (spX 1 2 1 0) [1, 2] = R := ⟨_, rfl⟩
  have e2 : (addMx (2 + 1) M1 (spX 1 2 1 0) [1, 2]).2 = true := e2
  have e3 : rankM (addMx (2 + 1) M1 (spX 1 2 1 0) [1, 2]).1 = 2 + 1 := e3
  have e4 : joinLs ((solM (addMx (2 + 1) M1 (spX 1 2 1 0) [1, 2]).1).take 2) 3 = [1, 2, 3] := e4
  rw [hR2] at e2 e3 e4
  obtain rfl : b2 = true := e2
  have hinv1 := addMx_inv HI1.out (by omega) (spX_lt (s := 1) (K := 2) (P := 1) (id := 1)) (l := [3, 0]) rfl
  rw [hR1] at hinv1
  have hinv2 := addMx_inv hinv1 (by omega) (spX_lt (s := 1) (K := 2) (P := 1) (id := 0)) (l := [1, 2]) rfl
  rw [hR2] at hinv2
  have HI2 := Lib.hid hinv1
  have HI3 := Lib.hid hinv2
  have HR1 := Lib.hid hR1
  have HR2 := Lib.hid hR2
  have HE3 := Lib.hid e3
  have HE4 := Lib.hid e4
  clear e3 e4 hinv1 hinv2 hR1 hR2
  have hal1 : Below w1.heap.size w1 (w1.alloc (.cells #[.int .u8 3, .int .u8 0] 5)) := (Below.refl _ _).alloc (Nat.le_refl _) _
  have HROW1 : Hid (Row (w1.alloc (.cells #[.int .u8 3, .int .u8 0] 5)) (w1.alloc (.cells #[.int .u8 3, .int .u8 0] 5)).heap.size (some ⟨w1.heap.size, 0, none⟩) 2 (bv [3, 0])) := Lib.hid (by
    have := row_new w1 #[.int .u8 3, .int .u8 0] 5 (0, 0)
    rw [show bv [3, 0] = [Value.int .u8 3, Value.int .u8 0] from rfl]
    simpa using this)
  have S2 := Lib.hid (S1.out.below (keeps_dec _ _ _ _ _ _ _) keeps_no keeps_no hal1)
  clear hal1 S1
  go_wp2_with fail
  generalize (w1.alloc (.cells #[.int .u8 3, .int .u8 0] 5)) = w2 at *
  obtain ⟨F2, hd2, hF2, next2⟩ := S2.out.first keeps_no keeps_no
  have HTK := Lib.hid (take_any F2 gd 1 2 1 2 0 1 2 (some ⟨w1.heap.size, 0, none⟩) [3, 0] _ w2 hd2 HI1.out (by omega) (by omega) ⟨by omega, by omega⟩ (by omega) ⟨by omega, by omega⟩ rfl HROW1.out (HT.out.grow S2.out.b) (by omega))
  rw [HR1.out] at HTK
  refine HTK.out.mono ?_
  rintro e w3 ⟨rfl, hd3, hf3⟩
  have S3 : Hid (Sep3 (decO gd 1 2 1 2 M1 1) noObj noObj w w3) := Lib.hid (next2 w3 (decO gd 1 2 1 2 M1 1) hd3.out hf3.out)
  clear HTK hd2 hd3 hf3 next2 hF2 HROW1 S2
  have hal3 : Below w3.heap.size w3 (w3.alloc (.cells #[.int .u8 1, .int .u8 2] 5)) := (Below.refl _ _).alloc (Nat.le_refl _) _
  have HROW3 : Hid (Row (w3.alloc (.cells #[.int .u8 1, .int .u8 2] 5)) (w3.alloc (.cells #[.int .u8 1, .int .u8 2] 5)).heap.size (some ⟨w3.heap.size, 0, none⟩) 2 (bv [1, 2])) := Lib.hid (by
    have := row_new w3 #[.int .u8 1, .int .u8 2] 5 (0, 0)
    rw [show bv [1, 2] = [Value.int .u8 1, Value.int .u8 2] from rfl]
    simpa using this)
  have S4 := Lib.hid (S3.out.below (keeps_dec _ _ _ _ _ _ _) keeps_no keeps_no hal3)
  clear hal3 S3
  go_wp2_with fail
  generalize (w3.alloc (.cells #[.int .u8 1, .int .u8 2] 5)) = w4 at *
  obtain ⟨F4, hd4, hF4, next4⟩ := S4.out.first keeps_no keeps_no
  have HTK := Lib.hid (take_any F4 gd 1 2 1 2 1 0 2 (some ⟨w3.heap.size, 0, none⟩) [1, 2] _ w4 hd4 HI2.out (by omega) (by omega) ⟨by omega, by omega⟩ (by omega) ⟨by omega, by omega⟩ rfl HROW3.out (HT.out.grow S4.out.b) (by omega))
  rw [HR2.out] at HTK
  refine HTK.out.mono ?_
  rintro e w5 ⟨rfl, hd5, hf5⟩
  have S5 : Hid (Sep3 (decO gd 1 2 1 2 M2 2) noObj noObj w w5) := Lib.hid (next4 w5 (decO gd 1 2 1 2 M2 2) hd5.out hf5.out)
  clear HTK hd4 hd5 hf5 next4 hF4 HROW3 S4
  go_wp2_with fail
  obtain ⟨F5, hd5, hF5, next5⟩ := S5.out.first keeps_no keeps_no
  have HIM := Lib.hid (image_any F5 gd 1 2 1 2 2 M2 3 w5 hd5 HI3.out HE3.out cnt32 ⟨by omega, by omega⟩ (by omega))
  refine HIM.out.mono ?_
  rintro e w6 ⟨A6, n6, c6, rfl, hn6, ho6, hd6, hf6⟩
  rw [HE4.out] at ho6 hn6
  have S6 : Hid (Sep3 (decO gd 1 2 1 2 M2 2) noObj noObj w w6) := Lib.hid (next5 w6 (decO gd 1 2 1 2 M2 2) hd6.out hf6.out)
  have hk6 := conv_own c6 ho6.out w6 (Below.refl _ _)
  clear HIM hd5 hd6 hf6 next5 hF5 S5 hn6
  obtain ⟨F6, hd6, hF6, next6⟩ := S6.out.first keeps_no keeps_no
  have HTA := Lib.hid (taken_any F6 gd 1 2 1 2 2 M2 w6 hd6)
  have HNE := Lib.hid (needs_any F6 gd 1 2 1 2 2 M2 w6 hd6 HI3.out ⟨by omega, by omega⟩ (by omega) ⟨by omega, by omega⟩)
  rw [HE3.out] at HNE
  have HB6 := Lib.hid S6.out.b
  clear hd6 hF6 next6 S6
  go_wp2_with fail
  refine HTA.out.mono ?_
  rintro e w7 ⟨rfl, rfl⟩
  go_wp2_with fail
  refine HNE.out.mono ?_
  rintro e w8 ⟨rfl, hb8⟩
  have HB8 := Lib.hid (HB6.out.trans (hb8.out.mono HB6.out.size))
  clear hb8 hk6
  go_wp2_with fail
  go_ret
  exact ⟨rfl, HB8⟩
end Go.Proofs.YtpmmolamdlcmnaaGreatDoor.Dc
namespace Go.Proofs.YtpmmolamdlcmnaaGreatDoor.Dc
open Go.RowKit
open VecM RdM Vc Sp Pc El
theorem size_facts (N zz K : Nat) (h1 : 1 ≤ N) (h2 : N ≤ 201) (hz : 1 ≤ zz ∧ zz ≤ 16) (hN : N ≤ 64 * zz) (hK : (N + zz - 1) / zz = K) : BlkM.count (N : Int) (zz : Int) = K ∧ 1 ≤ K ∧ K ≤ 64 := by
  have hq : ((N : Int) + (zz : Int) - 1) / (zz : Int) = (K : Int) := by
    rw [← hK]
    have : ((N : Int) + (zz : Int) - 1) = ((N + zz - 1 : Nat) : Int) := by omega
    rw [this]; rfl
  have hk1 : 1 ≤ K := by
    rw [← hK]
    exact Nat.div_pos (by omega) (by omega)
  have hk2 : K ≤ 64 := by
    rw [← hK]
    have : (N + zz - 1) / zz < 65 := (Nat.div_lt_iff_lt_mul (by omega)).2 (by omega)
    omega
  refine ⟨?_, hk1, hk2⟩
  unfold BlkM.count
  rw [if_neg (by omega), hq, if_neg (by omega)]
  rfl
def SoundOk12 (s : Nat) (w : World) (e : Ending) (w' : World) : Prop :=
  ∃ (K P Z : Nat) (A : Option Addr) (c : Nat) (img : List UInt8), e = .returned (.tuple #[parV s K P Z, .slice A img.length c]) ∧ Hid ((1 ≤ K ∧ K ≤ 64) ∧ P ≤ 16 ∧ (1 ≤ Z ∧ Z ≤ 16) ∧ (1 ≤ img.length ∧ img.length ≤ 201) ∧ BlkM.count (img.length : Int) (Z : Int) = K) ∧
    Hid (w'.ownsRow w.heap.size 5 1 (.slice A img.length c) img.length (bv img)) ∧ Hid (Below w.heap.size w w')
set_option maxRecDepth 100000 in
set_option maxHeartbeats 3200000 in
theorem sound12_q (s n c B q z p zz K : Nat) (K0 P0 Z0 : Int) (A : Option Addr) (l : List UInt8) (w : World) (hr : Row w B A n (bv l)) (hn : n ≤ c ∧ c ≤ 9223372036854775807) (hB : B ≤ w.heap.size)
    (hq : min (n : Int) 200 = (q : Int)) (hqn : q ≤ n) (hq3 : q ≤ 200) (hpp : wrap64 ((IntKind.u64.wrap P0).tmod 17) = (p : Int)) (hp : p ≤ 16) (hzp : wrap64 ((IntKind.u64.wrap Z0).tmod 16) = (z : Int)) (hz : z ≤ 15)
    (hm : max (1 + (z : Int)) (((q : Int) + 1 + 64 - 1) / 64) = (zz : Int)) (hzz : 1 ≤ zz ∧ zz ≤ 16) (hK : ((q : Int) + 1 + (zz : Int) - 1) / (zz : Int) = (K : Int)) (hKn : (q + 1 + zz - 1) / zz = K) (hN : q + 1 ≤ 64 * zz) :
    Calls Tryz.prog 14 #[parV s K0 P0 Z0, .slice A n c] w (SoundOk12 s w) := by
  obtain ⟨iu, hui, huz, hus, hub⟩ := info_parts Tryz.info5
  have HPP := Lib.hid hpp
  have HZP := Lib.hid hzp
  have HQ := Lib.hid hq
  have HM := Lib.hid hm
  have HK := Lib.hid hK
  have HF := Lib.hid (size_facts (q + 1) zz K (by omega) (by omega) hzz hN hKn)
  have HZZ := Lib.hid hzz
  have hx1 := heap_alloc2_old w (.cells #[.int .u32 (s : Int), .int .i64 K0, .int .i64 P0, .int .i64 Z0] 35) (.cells #[.int .u32 0, .int .i64 0, .int .i64 0, .int .i64 0] 35)
  have hx2 := heap_alloc2_new w (.cells #[.int .u32 (s : Int), .int .i64 K0, .int .i64 P0, .int .i64 Z0] 35) (.cells #[.int .u32 0, .int .i64 0, .int .i64 0, .int .i64 0] 35)
  have hb0 : Below w.heap.size w ((w.alloc (.cells #[.int .u32 (s : Int), .int .i64 K0, .int .i64 P0, .int .i64 Z0] 35)).alloc (.cells #[.int .u32 0, .int .i64 0, .int .i64 0, .int .i64 0] 35)) := ((Below.refl _ _).alloc (Nat.le_refl _) _).alloc (by simp) _
  have hsz : ((w.alloc (.cells #[.int .u32 (s : Int), .int .i64 K0, .int .i64 P0, .int .i64 Z0] 35)).alloc (.cells #[.int .u32 0, .int .i64 0, .int .i64 0, .int .i64 0] 35)).heap.size = w.heap.size + 2 := by simp
  have HSZ := Lib.hid hsz
  have HX1 := Lib.hid hx1
  have HX2 := Lib.hid hx2
  have HB0 := Lib.hid hb0
  have HR := Lib.hid (hr.head (k := q) (by omega))
  rw [bv_take] at HR
  have HBB := Lib.hid hB
  have hl : (l.take q).length = q := by rw [List.length_take, hr.blen]; omega
  have HL := Lib.hid hl
  have hn1 := hn.1
  have hn2 := hn.2
  unfold parV
  clear hpp hzp hx1 hx2 hb0 hsz hr hn hq hm hK hKn hN hB hl hzz
  go_enter Tryz.func14, Tryz.ntmps14
  go_upto_region 1 with fail
  generalize ((w.alloc (.cells #[.int .u32 (s : Int), .int .i64 K0, .int .i64 P0, .int .i64 Z0] 35)).alloc (.cells #[.int .u32 0, .int .i64 0, .int .i64 0, .int .i64 0] 35)) = w0 at *
  have OW0 := Lib.hid (own_lit (w := w0) (base := w0.heap.size) (g := w0.heap.size) (n := 0) (e := 5) #[] rfl (Nat.le_refl _) rfl (by unfold maxLen; omega))
  have HBA : Hid (Below w0.heap.size w0 (w0.alloc (.cells #[] 5))) := Lib.hid ((Below.refl _ _).alloc (Nat.le_refl _) _)
  go_upto_region 2 with (first
    | rw [HQ.out]
    | (at_builtin; refine wpList_app rfl (.tmp 7) (.tmp 12) 23 rfl w0.heap.size 5 iu (.int .u8 0) 1 Tryz.underlying23 hui huz hus hub rfl _ 0 [] rfl OW0.out B A q c (bv (l.take q)) rfl (HR.out.below ((HB0.out.mono HBB.out).trans (HBA.out.mono (Nat.le_trans HBB.out HB0.out.size)))) (bv_one _) (by unfold maxLen; omega) (by omega) HBA.out.size ?_; intro v2 w2 hown2 hg2 hat2; rw [Nat.zero_add, List.nil_append] at hown2; have O2 := Lib.hid hown2; have B2 := Lib.hid (below_app HBA.out HBA.out.size OW0.out (Nat.le_refl _) hg2); clear hown2 hg2 hat2)
    | (at_builtin; refine wpList_app rfl (.tmp 13) (.tmp 14) 23 rfl w0.heap.size 5 iu (.int .u8 0) 1 Tryz.underlying23 hui huz hus hub rfl _ q _ rfl (own_below O2.out ((Below.refl _ _).alloc (Nat.le_refl _) _)) _ _ 1 1 (bv [7]) rfl (row_new w2 _ _ _) (bv_one _) (by unfold maxLen; omega) (by omega) (Nat.le_trans B2.out.size ((Below.refl _ _).alloc (Nat.le_refl _) _).size) ?_; intro v3 w3 hown3 hg3 hat3; have O3 := Lib.hid hown3; have B3 := Lib.hid (below_app (B2.out.alloc B2.out.size _) (B2.out.alloc B2.out.size _).size (own_below O2.out ((Below.refl _ _).alloc (Nat.le_refl _) _)) (Nat.le_refl _) hg3); clear hown3 hg3 hat3))
  obtain ⟨A3, c3, rfl, hc3, hc3m, _⟩ := own_slice O3.out
  have hx1 := (B3.out.block w.heap.size (by have := HSZ.out; omega)).trans HX1.out
  have hx2 := (B3.out.block (w.heap.size + 1) (by have := HSZ.out; omega)).trans HX2.out
  obtain ⟨c0, c1, c2, c3'⟩ := box4 hx1
  obtain ⟨d0, d1, d2, d3⟩ := box4 hx2
  obtain ⟨f0, f1, f2, f3⟩ := frozenBox hx2
  have HX3 := Lib.hid hx2
  clear hx1 hx2 HX1 HX2 OW0 HBA O2 B2 HR
  have hzzb : (zz : Int) ≤ 16 ∧ 1 ≤ (zz : Int) := by have := HZZ.out; omega
  have hz1 := hzzb.1
  have hz2 := hzzb.2
  go_upto_region 3 with (first | rw [HZP.out])
  rw [HM.out]
  have hpp := HPP.out
  have hK := HK.out
  have hzne : ¬ (zz : Int) = 0 := by omega
  go_region
  have hlen : (l.take q ++ [7]).length = q + 1 := by rw [List.length_append, HL.out]; rfl
  have hrow0 := setBox HX3.out (.int .u32 (s : Int)) (.int .i64 (K : Int)) (.int .i64 (p : Int)) (.int .i64 (zz : Int))
  have hrow : (((((w3.setCell ⟨w.heap.size + 1, 0, none⟩ (.int .u32 (s : Int))).setCell ⟨w.heap.size + 1, 1, none⟩ (.int .i64 (K : Int))).setCell ⟨w.heap.size + 1, 2, none⟩ (.int .i64 (p : Int))).setCell ⟨w.heap.size + 1, 3, none⟩ (.int .i64 (zz : Int))).drew).heap[w.heap.size + 1]? = some (.cells #[.int .u32 (s : Int), .int .i64 (K : Int), .int .i64 (p : Int), .int .i64 (zz : Int)] 35 (0, 0)) := hrow0
  have hbo : ∀ b, (Value.slice A3 (q + 1) c3).ownBlock = some b → some (w.heap.size + 1) ≠ some b := fun b e => by
    have h1 := (O3.out.lt b e).1
    have h2 := HSZ.out
    intro h
    injection h with h
    omega
  have ho0 := own_grown (own_grown (own_grown (own_grown O3.out (grown_set1 w3 (w.heap.size + 1) 0 (.int .u32 (s : Int))) hbo) (grown_set1 _ (w.heap.size + 1) 1 (.int .i64 (K : Int))) hbo) (grown_set1 _ (w.heap.size + 1) 2 (.int .i64 (p : Int))) hbo) (grown_set1 _ (w.heap.size + 1) 3 (.int .i64 (zz : Int))) hbo
  have ho1 := own_base (own_below ho0 (Below.refl _ _).drew) HB0.out.size
  have hbf : Below w.heap.size w (((((w3.setCell ⟨w.heap.size + 1, 0, none⟩ (.int .u32 (s : Int))).setCell ⟨w.heap.size + 1, 1, none⟩ (.int .i64 (K : Int))).setCell ⟨w.heap.size + 1, 2, none⟩ (.int .i64 (p : Int))).setCell ⟨w.heap.size + 1, 3, none⟩ (.int .i64 (zz : Int))).drew) := (((((HB0.out.trans (B3.out.mono HB0.out.size)).setCell (by show w.heap.size ≤ w.heap.size + 1; omega) _).setCell (by show w.heap.size ≤ w.heap.size + 1; omega) _).setCell (by show w.heap.size ≤ w.heap.size + 1; omega) _).setCell (by show w.heap.size ≤ w.heap.size + 1; omega) _).drew
  have HRW := Lib.hid hrow
  have HOF := Lib.hid ho1
  have HBF := Lib.hid hbf
  have HLN := Lib.hid hlen
  clear hrow0 hrow hbo ho0 ho1 hbf hlen
  generalize ((((w3.setCell ⟨w.heap.size + 1, 0, none⟩ (.int .u32 (s : Int))).setCell ⟨w.heap.size + 1, 1, none⟩ (.int .i64 (K : Int))).setCell ⟨w.heap.size + 1, 2, none⟩ (.int .i64 (p : Int))).setCell ⟨w.heap.size + 1, 3, none⟩ (.int .i64 (zz : Int))).drew = wf at *
  go_wp2_with fail
  refine bodyPost_ret (Pc.results_cell_row rfl _ _ (w.heap.size + 1) _ _ (0, 0) _ rfl HRW.out Tryz.underlying35 rfl (by kernel_rfl)) rfl ?_
  refine ⟨K, p, zz, A3, c3, l.take q ++ [7], ?_, Lib.hid ⟨HF.out.2, hp, HZZ.out, ?_, ?_⟩, ?_, HBF⟩
  · rw [HLN.out]; rfl
  · rw [HLN.out]; omega
  · rw [HLN.out]; exact HF.out.1
  · rw [HLN.out, bv_append]; exact HOF
set_option maxRecDepth 100000 in
theorem sound12_any (s n c B : Nat) (K0 P0 Z0 : Int) (A : Option Addr) (l : List UInt8) (w : World) (hr : Row w B A n (bv l)) (hn : n ≤ c ∧ c ≤ 9223372036854775807) (hB : B ≤ w.heap.size) :
    Calls Tryz.prog 14 #[parV s K0 P0 Z0, .slice A n c] w (SoundOk12 s w) := by
  obtain ⟨p, hp, hpp⟩ := pick_in P0 17 (by omega) (by omega)
  obtain ⟨z, hz, hzp⟩ := pick_in Z0 16 (by omega) (by omega)
  obtain ⟨q, hq⟩ : ∃ q : Nat, min n 200 = q := ⟨_, rfl⟩
  obtain ⟨zz, hzz⟩ : ∃ zz : Nat, max (1 + z) ((q + 1 + 64 - 1) / 64) = zz := ⟨_, rfl⟩
  have hd : ((q : Int) + 1 + 64 - 1) / 64 = (((q + 1 + 64 - 1) / 64 : Nat) : Int) := by omega
  have hz1 : 1 ≤ zz ∧ zz ≤ 16 := by omega
  have hN : q + 1 ≤ 64 * zz := by omega
  refine sound12_q s n c B q z p zz _ K0 P0 Z0 A l w hr hn hB (by omega) (by omega) (by omega) hpp (by omega) hzp (by omega) (by rw [hd]; omega) hz1 ?_ rfl hN
  have : ((q : Int) + 1 + (zz : Int) - 1) = ((q + 1 + zz - 1 : Nat) : Int) := by omega
  rw [this]
  rfl
end Go.Proofs.YtpmmolamdlcmnaaGreatDoor.Dc
namespace Go.Proofs.YtpmmolamdlcmnaaGreatDoor.Cd
open Go.RowKit
open VecM RdM Vc Sp Pc
theorem size_facts (N zz K : Nat) (h1 : 1 ≤ N) (h2 : N ≤ 301) (hz : 1 ≤ zz ∧ zz ≤ 16) (hN : N ≤ 64 * zz) (hK : (N + zz - 1) / zz = K) : BlkM.count (N : Int) (zz : Int) = K ∧ 1 ≤ K ∧ K ≤ 64 := by
  have hq : ((N : Int) + (zz : Int) - 1) / (zz : Int) = (K : Int) := by
    rw [← hK]
    have : ((N : Int) + (zz : Int) - 1) = ((N + zz - 1 : Nat) : Int) := by omega
    rw [this]; rfl
  have hk1 : 1 ≤ K := by
    rw [← hK]
    exact Nat.div_pos (by omega) (by omega)
  have hk2 : K ≤ 64 := by
    rw [← hK]
    have : (N + zz - 1) / zz < 65 := (Nat.div_lt_iff_lt_mul (by omega)).2 (by omega)
    omega
  refine ⟨?_, hk1, hk2⟩
  unfold BlkM.count
  rw [if_neg (by omega), hq, if_neg (by omega)]
  rfl
def SoundOk11 (s : Nat) (w : World) (e : Ending) (w' : World) : Prop :=
  ∃ (K P Z : Nat) (A : Option Addr) (c : Nat) (img : List UInt8), e = .returned (.tuple #[parV s K P Z, .slice A img.length c]) ∧ Hid ((1 ≤ K ∧ K ≤ 64) ∧ P ≤ 16 ∧ (1 ≤ Z ∧ Z ≤ 16) ∧ (1 ≤ img.length ∧ img.length ≤ 301) ∧ BlkM.count (img.length : Int) (Z : Int) = K) ∧
    Hid (w'.ownsRow w.heap.size 5 1 (.slice A img.length c) img.length (bv img)) ∧ Hid (Below w.heap.size w w')
end Go.Proofs.YtpmmolamdlcmnaaGreatDoor.Cd
namespace Go.Proofs.YtpmmolamdlcmnaaGreatDoor.Cd
open Go.RowKit
open VecM RdM Vc Sp Pc
theorem aw11_0 : symX 1 2 1 2 [1, 2, 3] 0 = [1, 2] := by
  rw [symX_first (by omega) (by omega) (by omega), allC_first (by omega)]
  decide
theorem aw11_1 : symX 1 2 1 2 [1, 2, 3] 1 = [3, 0] := by
  rw [symX_first (by omega) (by omega) (by omega), allC_first (by omega)]
  decide
end Go.Proofs.YtpmmolamdlcmnaaGreatDoor.Cd
namespace Go.Proofs.YtpmmolamdlcmnaaGreatDoor.Cd
open Go.RowKit
open VecM RdM Vc Sp Pc
/-- four cells in a box below what is one's own -/
theorem own_set4 {w : World} {base b n : Nat} {e : TypeId} {v : Value} {xs : List Value} (h : w.ownsRow base e 1 v n xs) (hb : b < base) (v0 v1 v2 v3 : Value) : ((((w.setCell ⟨b, 0, none⟩ v0).setCell ⟨b, 1, none⟩ v1).setCell ⟨b, 2, none⟩ v2).setCell ⟨b, 3, none⟩ v3).ownsRow base e 1 v n xs := by
  have hbo : ∀ g, v.ownBlock = some g → some b ≠ some g := fun g e => by
    have h1 := (h.lt g e).1
    intro h; injection h with h; omega
  exact own_grown (own_grown (own_grown (own_grown h (grown_set1 w b 0 v0) hbo) (grown_set1 _ b 1 v1) hbo) (grown_set1 _ b 2 v2) hbo) (grown_set1 _ b 3 v3) hbo
theorem below_set4 {w w1 : World} {B b : Nat} (h : Below B w w1) (hb : B ≤ b) (v0 v1 v2 v3 : Value) : Below B w ((((w1.setCell ⟨b, 0, none⟩ v0).setCell ⟨b, 1, none⟩ v1).setCell ⟨b, 2, none⟩ v2).setCell ⟨b, 3, none⟩ v3) :=
  (((h.setCell hb _).setCell hb _).setCell hb _).setCell hb _
theorem count_zero (Z : Int) : BlkM.count 0 Z = 0 := by
  unfold BlkM.count
  rw [if_pos (by omega)]
end Go.Proofs.YtpmmolamdlcmnaaGreatDoor.Cd
