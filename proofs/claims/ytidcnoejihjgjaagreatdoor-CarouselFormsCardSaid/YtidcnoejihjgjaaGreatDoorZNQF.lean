/- code's made, known, Symbol, Pieces: by contract. -/
import Derived.Test.YtidcnoejihjgjaaGreatDoorCdQF
import Derived.Test.YtidcnoejihjgjaaGreatDoorZMQF
import Derived.Test.YtidcnoejihjgjaaGreatDoorZDQF
namespace Go.Proofs.YtidcnoejihjgjaaGreatDoor.Cd
open Go.RowKit
open VecM RdM Vc Sp Pc
def HMv (s K P Z : Nat) (img : List UInt8) (W : World) (B g : Nat) (A : Option Addr) (c : Nat) : Prop :=
  ∃ iv, W.heap[g]? = some (.cells (headC s K P Z iv 1 0 (.slice A (K + P) c)) 111 (0, 0)) ∧ PW (allC s K P Z img) B (.slice A (K + P) c) W ∧ g < B
theorem HMv.hm {s K P Z : Nat} {img : List UInt8} {W : World} {B g : Nat} {A : Option Addr} {c : Nat} (h : HMv s K P Z img W B g A c) : HM s K P Z img W B g := by
  obtain ⟨iv, h1, h2, h3⟩ := h
  exact ⟨iv, A, c, h1, h2, h3⟩
theorem HM.hv {s K P Z : Nat} {img : List UInt8} {W : World} {B g : Nat} (h : HM s K P Z img W B g) : ∃ A c, HMv s K P Z img W B g A c := by
  obtain ⟨iv, A, c, h1, h2, h3⟩ := h
  exact ⟨A, c, iv, h1, h2, h3⟩
theorem HMv.lt {s K P Z : Nat} {img : List UInt8} {W : World} {B g : Nat} {A : Option Addr} {c : Nat} (h : HMv s K P Z img W B g A c) : g < W.heap.size := h.hm.lt
theorem HMv.below {s K P Z : Nat} {img : List UInt8} {W W' : World} {B g : Nat} {A : Option Addr} {c : Nat} (h : HMv s K P Z img W B g A c) (hb : Below W.heap.size W W') : HMv s K P Z img W' B g A c := by
  have hl := h.lt
  obtain ⟨iv, h1, h2, h3⟩ := h
  exact ⟨iv, (hb.block g hl).trans h1, h2.below hb, h3⟩
theorem HF.ne_tab {s K P Z : Nat} {img : List UInt8} {W : World} {g : Nat} (h : HF s K P Z img W g) (ht : DTab W) : g ≠ 1 := by
  intro e
  obtain ⟨A, c, h1, _⟩ := h
  have h2 := ht.2 0 (by omega)
  have h3 := cell_at h1 (p := 0) rfl
  rw [e] at h3
  rw [h3] at h2
  injection h2 with h2
  injection h2 with h2
  cases h2
theorem DTab.but {w w' : World} {B g : Nat} (h : DTab w) (hb : But B g w w') (hB : w.heap.size ≤ B) (hg : g ≠ 1) : DTab w' :=
  ⟨Nat.lt_of_lt_of_le h.1 hb.size, fun j hj => by rw [World.cell?_of_block (w := w) (a := ⟨1, j, none⟩) (hb.block _ (Nat.lt_of_lt_of_le h.1 hB) (fun e => hg e.symm))]; exact h.2 j hj⟩
theorem results_cell1 {fn : Func} {p : Tmp} {ty : TypeId} (h : fn.results = #[.cell p ty]) (tmps : Array Value) (P : Program) (w : World) :
    (results fn tmps).run P w = ((asAddr (tmps.getD p undef)).run P w).andThen fun a w₁ => (loadVar ty a).run P w₁ := by
  simp only [results, h]
  simp [Sem.run_bind, Result.andThen]
theorem results_cell_one {P : Program} {fn : Func} {p : Tmp} {ty : TypeId} (h : fn.results = #[.cell p ty]) (tmps : Array Value) (w : World) (g : Nat) (t : TypeId) (cs : Array Value) (fr : Nat × Nat) (d : TypeDesc)
    (hp : tmps.getD p undef = .pointer (some ⟨g, 0, none⟩)) (hg : w.heap[g]? = some (.cells cs t fr))
    (hu : P.underlying ty = some d) (hd : (match d with | .struct _ | .array _ _ => true | _ => false) = true) (hi : (P.info? ty).map (·.size) = some cs.size) :
    (results fn tmps).run P w = .ok (.agg cs) w := by
  rw [results_cell1 h, hp]
  simp [asAddr, Result.andThen, run_loadVar_row w g t ty cs fr d hg hu hd hi]
def MadeOk (s K P Z : Nat) (img : List UInt8) (g B : Nat) (R : World → Prop) (e : Ending) (w' : World) : Prop :=
  ∃ A c, e = .returned (.slice A (K + P) c) ∧ Hid (HMv s K P Z img w' B g A c) ∧ Hid (R w')
set_option maxRecDepth 100000 in
set_option maxHeartbeats 800000 in
theorem made_done (s K P Z c g B : Nat) (A : Option Addr) (img : List UInt8) (w : World) (h : HMv s K P Z img w B g A c) :
    Calls Tryz.prog 76 #[.pointer (some ⟨g, 0, none⟩)] w (MadeOk s K P Z img g B (fun W => Below w.heap.size w W)) := by
  have hb0 : Below w.heap.size w (w.alloc (.cells #[.pointer (some ⟨g, 0, none⟩)] 59)) := (Below.refl _ _).alloc (Nat.le_refl _) _
  have H1 := Lib.hid (h.below hb0)
  have hx := heap_alloc_new w (.cells #[.pointer (some ⟨g, 0, none⟩)] 59)
  have HBX := Lib.hid hx
  have HB0 := Lib.hid hb0
  obtain ⟨iv, h1, _, _⟩ := H1.out
  have HH := Lib.hid h1
  have HD := Lib.hid (do_done_gen g 5 111 _ (.func (.func 98) #[] #[.pointer (some ⟨w.heap.size, 0, none⟩)]) _ h1 rfl)
  have hc := cell_at hx (p := 0) rfl
  clear h hb0 hx h1
  go_enter Tryz.func76, Tryz.ntmps76
  go_upto_region 1 with fail
  generalize (w.alloc (.cells #[.pointer (some ⟨g, 0, none⟩)] 59)) = w1 at *
  go_wp2_with (go_at_call 97; refine HD.out.mono ?_; rintro e w' ⟨rfl, rfl⟩; have hv := cell_at HH.out (p := 8) rfl)
  go_ret
  exact ⟨A, c, rfl, H1, HB0⟩
def OnceR (s K P Z : Nat) (img : List UInt8) (g : Nat) (iv : Value) (w w2 : World) : Prop := ∃ A2 c2, w2.heap[g]? = some (.cells (headC s K P Z iv 0 1 (.slice A2 (K + P) c2)) 111 (0, 0)) ∧ PW (allC s K P Z img) w.heap.size (.slice A2 (K + P) c2) w2 ∧ But w.heap.size g w w2
theorem once_end {s K P Z g : Nat} {img : List UInt8} {iv : Value} {w w2 : World} (h : OnceR s K P Z img g iv w w2) (hg : g < w.heap.size) : ∃ A c, HMv s K P Z img ((w2.drew.setCell ⟨g, 5, none⟩ (.int .u32 1)).setCell ⟨g, 6, none⟩ (.int .i32 0)) w.heap.size g A c ∧ But w.heap.size g w ((w2.drew.setCell ⟨g, 5, none⟩ (.int .u32 1)).setCell ⟨g, 6, none⟩ (.int .i32 0)) := by
  obtain ⟨A, c, h1, h2, h3⟩ := h
  have h1d : w2.drew.heap[g]? = some (.cells (headC s K P Z iv 0 1 (.slice A (K + P) c)) 111 (0, 0)) := h1
  have e1 := heap_setCell_same w2.drew g 5 _ _ (.int .u32 1) h1d
  have e2 := heap_setCell_same _ g 6 _ _ (.int .i32 0) e1
  have h2d : PW (allC s K P Z img) w.heap.size (.slice A (K + P) c) w2.drew := h2.below (Below.refl _ _).drew
  exact ⟨A, c, ⟨iv, e2, (h2d.set hg).set hg, hg⟩, ((h3.trans (But.of_below (Below.refl _ _).drew)).setSelf 5 _).setSelf 6 _⟩
theorem once_start {s K P Z c g : Nat} {img : List UInt8} {A : Option Addr} {w : World} (h1 : w.heap[g]? = some (.cells (headC s K P Z (.slice A img.length c) 0 0 (.slice none 0 0)) 111 (0, 0))) (h2 : Row w g A img.length (bv img)) :
    ∃ w1, ((w.alloc (.cells #[.pointer (some ⟨g, 0, none⟩)] 59)).setCell ⟨g, 6, none⟩ (.int .i32 1)) = w1 ∧ w1.heap.size = w.heap.size + 1 ∧ Row w1 g A img.length (bv img) ∧ MS s K P Z (.slice A img.length c) g w.heap.size w1 w1 ∧ But w.heap.size g w w1 := by
  have hl := (Array.getElem?_eq_some_iff.1 h1).1
  have hb : Below w.heap.size w (w.alloc (.cells #[.pointer (some ⟨g, 0, none⟩)] 59)) := (Below.refl _ _).alloc (Nat.le_refl _) _
  have hx := heap_alloc_new w (.cells #[.pointer (some ⟨g, 0, none⟩)] 59)
  have hg1 := (hb.block g hl).trans h1
  refine ⟨_, rfl, by simp, h2.below ((hb.mono (Nat.le_of_lt hl)).setCell (Nat.le_refl _) _), ⟨But.refl _ _ _, (heap_setCell_other _ _ _ _ (Nat.ne_of_gt hl)).trans hx, _, heap_setCell_same _ g 6 _ _ _ hg1⟩, (But.of_below hb).setSelf 6 _⟩
set_option maxRecDepth 100000 in
set_option maxHeartbeats 800000 in
theorem made_first (s K P Z g : Nat) (img : List UInt8) (w : World) (hs : s < 4294967296) (hK : 1 ≤ K ∧ K ≤ 64) (hP : P ≤ 16) (hZ : 1 ≤ Z ∧ Z ≤ 16) (hc : BlkM.count (img.length : Int) (Z : Int) = K) (h : HF s K P Z img w g) :
    Calls Tryz.prog 76 #[.pointer (some ⟨g, 0, none⟩)] w (MadeOk s K P Z img g (w.heap.size + 1) (fun W => But w.heap.size g w W)) := by
  have hlt := h.lt
  obtain ⟨A, c, h1, h2, h3⟩ := h
  obtain ⟨w1, hw1, hz1, hr1, hm1, hbt1⟩ := once_start h1 h2
  have hx := heap_alloc_new w (.cells #[.pointer (some ⟨g, 0, none⟩)] 59)
  have hb : Below w.heap.size w (w.alloc (.cells #[.pointer (some ⟨g, 0, none⟩)] 59)) := (Below.refl _ _).alloc (Nat.le_refl _) _
  have hg1 := (hb.block g hlt).trans h1
  have hone := (made1_any s K P Z c g w.heap.size A img w1 hs hK hP hZ hc h3 (by omega) hr1 hm1).mono (R' := fun e w2 => e = .returned (.tuple #[]) ∧ Hid (OnceR s K P Z img g (.slice A img.length c) w1 w2) ∧ Hid (Locked g 5 111 w2)) (by
    rintro e w2 ⟨rfl, A2, c2, q1, q2, q3⟩
    exact ⟨rfl, Lib.hid ⟨A2, c2, q1, q2, q3⟩, Lib.hid ⟨_, q1, rfl, rfl⟩⟩)
  have HDO := Lib.hid (do_gen g 5 111 _ (.pointer (some ⟨w.heap.size, 0, none⟩)) (OnceR s K P Z img g (.slice A img.length c) w1) _ hg1 rfl rfl (by rw [hw1]; exact hone))
  have hcb := cell_at hx (p := 0) rfl
  have HW1 := Lib.hid hw1
  have HZ1 := Lib.hid hz1
  have HBT1 := Lib.hid hbt1
  have HLT := Lib.hid hlt
  have HNE : Hid (w.heap.size ≠ g) := Lib.hid (by omega)
  have HR1 : Hid (∀ w2, OnceR s K P Z img g (.slice A img.length c) w1 w2 → w2.cell? ⟨w.heap.size, 0, none⟩ = some (.pointer (some ⟨g, 0, none⟩))) := Lib.hid fun w2 hw2 => by
    obtain ⟨_, _, _, _, hq⟩ := hw2
    exact cell_at ((hq.block _ (by omega) (by omega)).trans hm1.bx) rfl
  clear hs hK hP hZ hc h1 h2 h3 hw1 hz1 hr1 hm1 hbt1 hx hb hg1 hone hlt
  go_enter Tryz.func76, Tryz.ntmps76
  go_upto_region 1 with fail
  generalize (w.alloc (.cells #[.pointer (some ⟨g, 0, none⟩)] 59)) = w0 at *
  go_wp2_with fail
  refine HDO.out.mono ?_
  rintro e w3 ⟨rfl, w2, hR, rfl⟩
  obtain ⟨A9, c9, hm9, hb9⟩ := once_end hR.out (by have := HZ1.out; have := HLT.out; omega)
  have hcb2 : ((w2.drew.setCell ⟨g, 5, none⟩ (.int .u32 1)).setCell ⟨g, 6, none⟩ (.int .i32 0)).cell? ⟨w.heap.size, 0, none⟩ = some (.pointer (some ⟨g, 0, none⟩)) := by
    have hbk : ((w2.drew.setCell ⟨g, 5, none⟩ (.int .u32 1)).setCell ⟨g, 6, none⟩ (.int .i32 0)).heap[w.heap.size]? = w2.drew.heap[w.heap.size]? := (heap_setCell_other _ _ _ _ HNE.out).trans (heap_setCell_other _ _ _ _ HNE.out)
    rw [World.cell?_of_block (a := ⟨w.heap.size, 0, none⟩) hbk]
    exact HR1.out w2 hR.out
  have hcv : ((w2.drew.setCell ⟨g, 5, none⟩ (.int .u32 1)).setCell ⟨g, 6, none⟩ (.int .i32 0)).cell? ⟨g, 8, none⟩ = some (.slice A9 (K + P) c9) := by
    obtain ⟨iv, q, _⟩ := hm9
    exact cell_at q rfl
  have HE : Hid (But w.heap.size g w ((w2.drew.setCell ⟨g, 5, none⟩ (.int .u32 1)).setCell ⟨g, 6, none⟩ (.int .i32 0))) := Lib.hid (HBT1.out.trans (hb9.mono (by have := HZ1.out; omega)))
  have HM9 := Lib.hid hm9
  rw [HZ1.out] at HM9
  clear hR hm9 hb9 HDO hcb
  generalize ((w2.drew.setCell ⟨g, 5, none⟩ (.int .u32 1)).setCell ⟨g, 6, none⟩ (.int .i32 0)) = wf at *
  go_wp2_with fail
  go_ret
  exact ⟨A9, c9, rfl, HM9, HE⟩
set_option maxRecDepth 100000 in
set_option maxHeartbeats 800000 in
theorem known_any (s K P Z g : Nat) (iv v : Value) (d m : Int) (w : World) (h : w.heap[g]? = some (.cells (headC s K P Z iv d m v) 111 (0, 0))) :
    Calls Tryz.prog 78 #[.pointer (some ⟨g, 0, none⟩)] w fun e w' => e = .returned (parV s K P Z) ∧ Hid (Below w.heap.size w w') := by
  have hl := (Array.getElem?_eq_some_iff.1 h).1
  have hx := heap_alloc_new w (.cells #[.int .u32 0, .int .i64 0, .int .i64 0, .int .i64 0] 35)
  have hb : Below w.heap.size w (w.alloc (.cells #[.int .u32 0, .int .i64 0, .int .i64 0, .int .i64 0] 35)) := (Below.refl _ _).alloc (Nat.le_refl _) _
  have h1 := (hb.block g hl).trans h
  have c0 : (w.alloc (.cells #[.int .u32 0, .int .i64 0, .int .i64 0, .int .i64 0] 35)).cell? ⟨g, 0, none⟩ = some (.int .u32 (s : Int)) := cell_at h1 (p := 0) rfl
  have c1 : (w.alloc (.cells #[.int .u32 0, .int .i64 0, .int .i64 0, .int .i64 0] 35)).cell? ⟨g, 1, none⟩ = some (.int .i64 (K : Int)) := cell_at h1 (p := 1) rfl
  have c2 : (w.alloc (.cells #[.int .u32 0, .int .i64 0, .int .i64 0, .int .i64 0] 35)).cell? ⟨g, 2, none⟩ = some (.int .i64 (P : Int)) := cell_at h1 (p := 2) rfl
  have c3 : (w.alloc (.cells #[.int .u32 0, .int .i64 0, .int .i64 0, .int .i64 0] 35)).cell? ⟨g, 3, none⟩ = some (.int .i64 (Z : Int)) := cell_at h1 (p := 3) rfl
  have HX := Lib.hid hx
  have HB := Lib.hid hb
  obtain ⟨b0, b1, b2, b3⟩ := box4 hx
  obtain ⟨f0, f1, f2, f3⟩ := frozenBox hx
  clear h hl hb h1 hx
  go_enter Tryz.func78, Tryz.ntmps78
  go_upto_region 1 with fail
  generalize (w.alloc (.cells #[.int .u32 0, .int .i64 0, .int .i64 0, .int .i64 0] 35)) = w0 at *
  go_wp2_with fail
  have hrow := setBox HX.out (.int .u32 (s : Int)) (.int .i64 (K : Int)) (.int .i64 (P : Int)) (.int .i64 (Z : Int))
  refine bodyPost_ret (results_cell_one rfl _ _ (w.heap.size) _ _ (0, 0) _ rfl hrow Tryz.underlying35 rfl (by kernel_rfl)) rfl ?_
  exact ⟨rfl, ((((HB.out.setCell (Nat.le_refl _) _).setCell (Nat.le_refl _) _).setCell (Nat.le_refl _) _).setCell (Nat.le_refl _) _)⟩
end Go.Proofs.YtidcnoejihjgjaaGreatDoor.Cd
namespace Go.Proofs.YtidcnoejihjgjaaGreatDoor.Cd
open Go.RowKit
open VecM RdM Vc Sp Pc
def brow0 : BRow := ⟨none, 0, 0, []⟩
def Grows (R : World → Prop) (w : World) : Prop := (∀ W W', R W → Below W.heap.size W W' → R W') ∧ (∀ W, R W → w.heap.size ≤ W.heap.size) ∧ (∀ W, R W → DTab W)
def SymOk (s K P Z : Nat) (img : List UInt8) (id g B : Nat) (R : World → Prop) (w : World) (e : Ending) (w' : World) : Prop :=
  ∃ A n c, e = .returned (.slice A n c) ∧ Hid (n = (symX s K P Z img id).length) ∧ Hid (w'.ownsRow w.heap.size 5 1 (.slice A n c) n (bv (symX s K P Z img id))) ∧ Hid (HM s K P Z img w' B g) ∧ Hid (R w')
theorem ls_take (X k : Nat) (h : k < (Ls X).length) : (Ls X).take (k + 1) = (Ls X).take k ++ [(Ls X).getD k 0] := by
  rw [List.take_succ_eq_append_getElem h, List.getD_eq_getElem?_getD, List.getElem?_eq_getElem h]; rfl
set_option maxRecDepth 100000 in
set_option maxHeartbeats 3200000 in
theorem sym_gen (s K P Z id g B : Nat) (img : List UInt8) (R : World → Prop) (w : World) (hs : s < 4294967296) (hid : id < 4294967296) (hK : 1 ≤ K ∧ K ≤ 64) (hP : P ≤ 16) (hZ : 1 ≤ Z ∧ Z ≤ 16)
    (hR : Grows R w) (hm : Calls Tryz.prog 76 #[.pointer (some ⟨g, 0, none⟩)] w (MadeOk s K P Z img g B R)) :
    Calls Tryz.prog 50 #[.pointer (some ⟨g, 0, none⟩), .int .u32 (id : Int)] w (SymOk s K P Z img id g B R w) := by
  obtain ⟨i0, hi, hz0, hz1, hz2⟩ := info_parts Tryz.info22
  have HMD := Lib.hid hm
  have HRR := Lib.hid hR
  have HS := Lib.hid hs
  have HID := Lib.hid hid
  have HK := Lib.hid hK
  have HP := Lib.hid hP
  have HZ := Lib.hid hZ
  clear hm hR hs hid hK hP hZ
  go_enter Tryz.func50, Tryz.ntmps50
  go_wp2_with fail
  refine HMD.out.mono ?_
  rintro e w1 ⟨A, c, rfl, hv1, hr1⟩
  obtain ⟨iv, hh1, hpw1, hgB⟩ := hv1.out
  have HKN := Lib.hid (known_any s K P Z g iv _ 1 0 w1 hh1)
  clear HMD hh1
  go_wp2_with fail
  refine HKN.out.mono ?_
  rintro e w2 ⟨rfl, hb2⟩
  have HROW := Lib.hid (row_any s id K P Z w2 HS.out HID.out HK.out HP.out HZ.out)
  clear HKN
  go_wp2_with fail
  refine HROW.out.mono ?_
  rintro e w3 ⟨gv, hv, rfl, hgv, hhv, hvec, hb3⟩
  have hR3 : R w3 := HRR.out.1 _ _ (HRR.out.1 _ _ hr1.out hb2.out) hb3.out
  have HLS := Lib.hid (list_any gv hv (K + P) _ w3 hvec.out (HRR.out.2.2 _ hR3))
  clear HROW hgv hhv
  go_wp2_with fail
  refine HLS.out.mono ?_
  rintro e w4 ⟨A4, c4, rfl, hown4, hb4⟩
  have hR4 : R w4 := HRR.out.1 _ _ hR3 hb4.out
  have HB4 : Hid (Below w1.heap.size w1 w4) := Lib.hid (hb2.out.trans ((hb3.out.mono hb2.out.size).trans (hb4.out.mono (Nat.le_trans hb2.out.size hb3.out.size))))
  obtain ⟨A', c', es, hve, hes, hrows, _⟩ := hpw1.rows
  rw [allC_length] at hve hrows
  injection hve with e1 e2 e3
  subst e1 e3
  have HROWS := Lib.hid (hrows.below (hb := HB4.out))
  have HES := Lib.hid hes
  have HR4 := Lib.hid hR4
  have HV4 := Lib.hid (hv1.out.below HB4.out)
  have HL4 := Lib.hid (Row.of_own hown4.out)
  have HSZ4 : Hid (w1.heap.size ≤ w4.heap.size) := Lib.hid HB4.out.size
  have HMEM : Hid (∀ i ∈ Ls (spX s K P id), i < K + P) := Lib.hid fun i hi => Ls_lt hi
  have HC : Hid ((Ls (spX s K P id)).length ≤ 256) := Lib.hid (L_le _ 256)
  have HSY : Hid (symX s K P Z img id = sumF ((Ls (spX s K P id)).map fun i => (allC s K P Z img).getD i [])) := Lib.hid rfl
  have HCN : Hid (1 ≤ (Ls (spX s K P id)).length) := Lib.hid (spX_count HK.out.1 (by have := HK.out; have := HP.out; omega)).1
  have HTK := Lib.hid (fun k => ls_take (spX s K P id) k)
  clear HLS hown4 hR3 hR4 hb2 hb3 hb4 hvec hr1 hpw1 hrows hes hv1 HB4
  generalize spX s K P id = X at *
  obtain ⟨ls, hls⟩ : ∃ l, Ls X = l := ⟨_, rfl⟩
  rw [hls] at HL4 HMEM HC HSY HCN HTK ⊢
  clear hls
  obtain ⟨m, hmm⟩ : ∃ m, ls.length = m := ⟨_, rfl⟩
  have HM := Lib.hid hmm
  rw [hmm] at HL4 HC HCN HTK ⊢
  have hm256 : m ≤ 256 := HC.out
  clear hmm
  have hG : w.heap.size ≤ w4.heap.size := HRR.out.2.1 _ HR4.out
  have HG := Lib.hid hG
  go_wp2_with fail
  go_loopw [5, 17] (fun v i wr => ∃ k : Nat, k ≤ m ∧ i = .int .i64 k ∧ Hid (wr.ownsRow w4.heap.size 22 1 v k ((ls.take k).map fun i => (es.getD i brow0).val)) ∧ Hid (Below w4.heap.size w4 wr)) (fun _ i _ => m - (intOf i).toNat)
  case atStart => exact ⟨0, by omega, rfl, Lib.hid (World.ownsRow_nil _ _ _ _), Lib.hid (Below.refl _ _)⟩
  case round =>
    obtain ⟨k, hk, rfl, hown, hbk⟩ := hrel
    have hsz := hbk.out.size
    by_cases hlt : k < m
    · obtain ⟨b, o, rfl, _, hcell⟩ := (HL4.out.below hbk.out).cellAt hlt (u := .int .i64 ((ls.getD k 0 : Nat) : Int)) (by
        have hk2 : k < ls.length := by rw [HM.out]; exact hlt
        simp [nv, hk2, List.getD])
      have hmem : ls.getD k 0 ∈ ls := getD_mem (by rw [HM.out]; exact hlt)
      have hin := HMEM.out _ hmem
      have htk := HTK.out k hlt
      have HTKK := Lib.hid htk
      generalize ls.getD k 0 = i at *
      obtain ⟨b2, o2, rfl, r, hr, hcell2, hrow⟩ := (HROWS.out.below (hbk.out.mono HSZ4.out)).at_ hin
      have hrd : (es.getD i brow0) = r := by simp [List.getD, hr]
      have HRD := Lib.hid hrd
      have HOW := Lib.hid hown.out
      obtain ⟨Av, cv, rfl, _⟩ := own_slice hown.out
      have hki : (k : Int) < (m : Int) := by omega
      have hii : (i : Int) < ((K + P : Nat) : Int) := by omega
      have hK1 := HK.out
      have hP1 := HP.out
      clear hown hmem htk hr hrow hrd
      go_wp2_with (at_builtin; refine wpList_app rfl (.tmp 21) (.tmp 26) 78 rfl w4.heap.size 22 i0 (.slice none 0 0) 24 Tryz.underlying78 hi hz0 hz1 hz2 rfl _ k _ rfl (own_below HOW.out ((Below.refl _ _).alloc (Nat.le_refl _) _)) _ _ 1 1 _ rfl (row_new wr _ _ _) (by intro u hu; simp at hu; subst hu; rfl) (by unfold maxLen; omega) (by omega) (Nat.le_trans hsz ((Below.refl _ _).alloc (Nat.le_refl _) _).size) ?_; intro v6 w6 hown6 hg6 hat6)
      have hbW : Below w4.heap.size w4 (wr.alloc (.cells #[.slice r.A r.n r.c] 22)) := hbk.out.alloc hsz _
      have hnext : Hid (w6.ownsRow w4.heap.size 22 1 v6 (k + 1) ((ls.take (k + 1)).map fun i => (es.getD i brow0).val)) := by
        rw [HTKK.out, List.map_append, List.map_singleton, HRD.out]
        exact Lib.hid hown6
      have hbn : Hid (Below w4.heap.size w4 w6) := Lib.hid (below_app hbW hbW.size (own_below HOW.out ((Below.refl _ _).alloc (Nat.le_refl _) _)) (Nat.le_refl _) hg6)
      clear hown6 hg6 hat6 hbW HOW hbk
      go_wp2_with fail
      go_roundw
      case rel => exact ⟨k + 1, by omega, by go_num, hnext, hbn⟩
      case measure => simp [intOf]; omega
    · obtain rfl : m = k := by omega
      clear hlt
      obtain ⟨Av, cv, rfl, hcv, hcv2, _⟩ := own_slice hown.out
      have hfin := hown.out
      rw [List.take_of_length_le (by rw [HM.out]; exact Nat.le_refl _)] at hfin
      obtain ⟨fs, hfs⟩ : ∃ fs : List BRow, fs = ls.map fun i => es.getD i brow0 := ⟨_, rfl⟩
      have hfl : fs.length = m := by rw [hfs, List.length_map]; exact HM.out
      have h2 : Rows2 wr wr.heap.size Av m fs := by
        refine ⟨?_, fun r hr => ?_⟩
        · have := Row.of_own hfin
          rw [hfs, List.map_map]; exact this
        · rw [hfs] at hr
          obtain ⟨i, hi2, rfl⟩ := List.mem_map.1 hr
          obtain ⟨_, _, _, r, hr2, _, hrow⟩ := (HROWS.out.below (hbk.out.mono HSZ4.out)).at_ (HMEM.out i hi2)
          have : es.getD i brow0 = r := by simp [List.getD, hr2]
          rw [this]; exact hrow.more (Nat.le_trans HSZ4.out hsz)
      have hfm : fs.map (·.l) = ls.map fun i => (allC s K P Z img).getD i [] := by
        rw [hfs, List.map_map]
        apply List.map_congr_left
        intro i hi2
        rw [← HES.out]
        simp only [Function.comp, List.getD_eq_getElem?_getD, List.getElem?_map]
        cases es[i]? <;> rfl
      cases fs with
      | nil => exact absurd hfl (by have := HCN.out; simp; omega)
      | cons r0 fs =>
        obtain ⟨m', rfl⟩ : ∃ m', m = m' + 1 := ⟨m - 1, by have := HCN.out; omega⟩
        have hrn : r0.n = Z := by
          rw [← (h2.2 r0 (by simp)).blen]
          have h5 : r0.l ∈ ls.map fun i => (allC s K P Z img).getD i [] := by rw [← hfm]; simp
          obtain ⟨i, hi2, e5⟩ := List.mem_map.1 h5
          rw [← e5]
          exact allC_zi (HMEM.out i hi2)
        have HSUM := Lib.hid (sum_some wr.heap.size m' cv Av r0 fs wr h2 hcv (by unfold maxLen at hcv2; omega) (Nat.le_refl _) (by have := HZ.out; omega))
        rw [hfm, ← HSY.out] at HSUM
        have HBK := hbk
        have HSZ := Lib.hid hsz
        clear hfin hfs hfl h2 hfm hrn hown hcv hcv2 hbk hsz
        go_wp2_with fail
        refine HSUM.out.mono ?_
        rintro e w7 ⟨A7, n7, c7, rfl, hn7, hown7, hb7⟩
        have HO7 := Lib.hid (own_base hown7 (Nat.le_trans HG.out HSZ.out))
        have HM7 := Lib.hid ((HV4.out.below HBK.out).below hb7).hm
        have HR7 := Lib.hid (HRR.out.1 _ _ (HRR.out.1 _ _ HR4.out HBK.out) hb7)
        have HN7 := Lib.hid hn7
        clear HSUM hown7 hb7 hn7
        go_wp2_with fail
        go_ret
        exact ⟨A7, n7, c7, rfl, HN7, HO7, HM7, HR7⟩
end Go.Proofs.YtidcnoejihjgjaaGreatDoor.Cd
namespace Go.Proofs.YtidcnoejihjgjaaGreatDoor.Cd
open Go.RowKit
open VecM RdM Vc Sp Pc
theorem grows_but {s K P Z : Nat} {img : List UInt8} {w : World} {g : Nat} (h : HF s K P Z img w g) (ht : DTab w) : Grows (fun W => But w.heap.size g w W) w :=
  ⟨fun _ _ h1 hb => h1.trans (But.of_below (hb.mono h1.size)), fun _ h1 => h1.size, fun _ h1 => DTab.but ht h1 (Nat.le_refl _) (h.ne_tab ht)⟩
theorem grows_below {w : World} (ht : DTab w) : Grows (fun W => Below w.heap.size w W) w :=
  ⟨fun _ _ h1 hb => h1.trans (hb.mono h1.size), fun _ h1 => h1.size, fun _ h1 => ht.grow h1⟩
end Go.Proofs.YtidcnoejihjgjaaGreatDoor.Cd
namespace Go.Proofs.YtidcnoejihjgjaaGreatDoor.Cd
open Go.RowKit
open VecM RdM Vc Sp Pc
def Kept (Q : World → Prop) (B U : Nat) (W : World) : Prop := ∃ W0, Q W0 ∧ W0.heap.size ≤ U ∧ U ≤ W.heap.size ∧ ∀ b, B ≤ b → b < U → W.heap[b]? = W0.heap[b]?
theorem Kept.below {Q : World → Prop} {B U : Nat} {W W' : World} (h : Kept Q B U W) (hb : Below W.heap.size W W') : Kept Q B U W' := by
  obtain ⟨W0, h1, h2, h3, h4⟩ := h
  exact ⟨W0, h1, h2, Nat.le_trans h3 hb.size, fun b hb1 hb2 => (hb.block b (Nat.lt_of_lt_of_le hb2 h3)).trans (h4 b hb1 hb2)⟩
theorem Kept.but {Q : World → Prop} {B U g : Nat} {W W' : World} (h : Kept Q B U W) (hb : But W.heap.size g W W') (hg : g < B ∨ U ≤ g) : Kept Q B U W' := by
  obtain ⟨W0, h1, h2, h3, h4⟩ := h
  exact ⟨W0, h1, h2, Nat.le_trans h3 hb.size, fun b hb1 hb2 => (hb.block b (Nat.lt_of_lt_of_le hb2 h3) (by rcases hg with h | h <;> omega)).trans (h4 b hb1 hb2)⟩
theorem Kept.drew {Q : World → Prop} {B U : Nat} {W : World} (h : Kept Q B U W) : Kept Q B U W.drew := h
theorem own_keep2 {W W' : World} {base n c : Nat} {e : TypeId} {A : Option Addr} {xs : List Value} (h : W.ownsRow base e 1 (.slice A n c) n xs) (hk : ∀ b, base ≤ b → b < W.heap.size → W'.heap[b]? = W.heap[b]?) : W'.ownsRow base e 1 (.slice A n c) n xs := by
  refine ⟨h.1, ?_⟩
  rcases h.2 with h0 | ⟨g, cap, cur, hv, hb, hg, r⟩
  · exact .inl h0
  · refine .inr ⟨g, cap, cur, hv, hb, ?_, r⟩
    rw [hk g hb (Array.getElem?_eq_some_iff.1 hg).1]
    exact hg
theorem PW.keep2 {ls : List (List UInt8)} {B n c : Nat} {A : Option Addr} {W W' : World} (h : PW ls B (.slice A n c) W) (hn : ls.length = n) (hk : ∀ b, B ≤ b → b < W.heap.size → W'.heap[b]? = W.heap[b]?) : PW ls B (.slice A n c) W' := by
  subst hn
  obtain ⟨es, h1, h2, h3⟩ := h
  refine ⟨es, h1, own_keep2 h2 hk, fun r hr => ?_⟩
  obtain ⟨g, a, q, o⟩ := h3 r hr
  exact ⟨g, a, q, own_keep2 o hk⟩
theorem Kept.own {base n c U : Nat} {e : TypeId} {A : Option Addr} {xs : List Value} {W : World} (h : Kept (fun W => W.ownsRow base e 1 (.slice A n c) n xs) base U W) : W.ownsRow base e 1 (.slice A n c) n xs := by
  obtain ⟨W0, h1, h2, h3, h4⟩ := h
  exact own_keep2 h1 fun b hb1 hb2 => h4 b hb1 (Nat.lt_of_lt_of_le hb2 h2)
theorem Kept.hf {s K P Z B U g : Nat} {img : List UInt8} {W : World} (h : Kept (HFq s K P Z img B g) B U W) : HF s K P Z img W g := by
  obtain ⟨W0, h1, h2, h3, h4⟩ := h
  exact (h1.keep fun b hb1 hb2 => h4 b hb1 (Nat.lt_of_lt_of_le hb2 h2)).hf
end Go.Proofs.YtidcnoejihjgjaaGreatDoor.Cd
