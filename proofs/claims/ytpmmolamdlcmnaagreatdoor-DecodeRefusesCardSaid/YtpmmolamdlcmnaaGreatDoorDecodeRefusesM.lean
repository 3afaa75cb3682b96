/- The tied card of downpourlaw12.DecodeRefuses. -/
import Derived.Test.YtpmmolamdlcmnaaGreatDoorZ17
namespace Go.Proofs.YtpmmolamdlcmnaaGreatDoor.Dc
open Go.RowKit
open VecM RdM Vc Sp Pc El Cd
theorem app_sep {s kk P Z g : Nat} {img : List UInt8} {D : Obj} {w2 w3 w3a w4 w5 w6 : World} {FH : Nat → Prop} {v5 : Value} {o : Go.Obj} (hf : Fr w3 w4 FH) (hh : headO s kk P Z img g w4 (fun b => FH b ∨ (w3a.heap.size ≤ b ∧ b < w4.heap.size))) (hl : ∀ b, FH b → b < w3.heap.size) (hg : w3.heap.size < w3a.heap.size) (hs : w3.heap.size < w4.heap.size)
    (hn : ∀ (w' : World) (A' : Obj), A' w' (fun b => FH b ∨ (w3.heap.size ≤ b ∧ b < w'.heap.size)) → Fr w3 w' FH → Sep3 A' D noObj w2 w') (g5 : w4.grownBy w5 (some w3.heap.size)) (t5 : v5.ownBlock = some w3.heap.size ∨ v5.ownBlock = some w4.heap.size) (g6 : (w5.alloc o).grownBy w6 v5.ownBlock) :
    Sep3 (headO s kk P Z img g) D noObj w2 w6 := by
  have b5 : Below w5.heap.size w5 (w5.alloc o) := (Below.refl _ _).alloc (Nat.le_refl _) _
  have s5 := g5.size
  have s5b := b5.size
  obtain ⟨q, hq, hq2⟩ : ∃ q, v5.ownBlock = some q ∧ (q = w3.heap.size ∨ q = w4.heap.size) := by
    rcases t5 with h | h
    · exact ⟨_, h, .inl rfl⟩
    · exact ⟨_, h, .inr rfl⟩
  rw [hq] at g6
  have s6 := g6.size
  have fr6 : Fr w3 w6 FH := ((hf.trans (Fr.of_grown (F := fun b => w3.heap.size ≤ b) g5 (Nat.le_refl _)) (fun b h1 h2 => absurd h2 (by omega))).trans (Fr.of_below (F := fun b => w3.heap.size ≤ b) b5) (fun b h1 h2 => absurd h2 (by omega))).trans (Fr.of_grown (F := fun b => w3.heap.size ≤ b) g6 (by rcases hq2 with h | h <;> omega)) (fun b h1 h2 => absurd h2 (by omega))
  have k46 : ∀ b, b < w4.heap.size → b ≠ w3.heap.size → w6.heap[b]? = w4.heap[b]? := fun b h1 h2 => by
    have e1 := g5.block b h1 (fun e => h2 (Option.some.inj e))
    have e2 := b5.block b (by omega)
    have e3 := g6.block b (by omega) (fun e => by have := Option.some.inj e; rcases hq2 with h | h <;> omega)
    exact e3.trans (e2.trans e1)
  refine hn w6 _ ((keeps_head s kk P Z img g w4 w6 _ hh (fun b hb hlt => k46 b hlt ?_) (by omega)).more fun b hb => ?_) fr6
  · rcases hb with hb | hb
    · have := hl b hb; omega
    · omega
  · rcases hb with hb | hb
    · exact .inl hb
    · exact .inr ⟨by omega, by omega⟩
set_option maxRecDepth 100000 in
set_option maxHeartbeats 6400000 in
theorem dcref_walk (s n c id : Nat) (more : Int) (K0 P0 Z0 : Int) (A : Option Addr) (l : List UInt8) (w : World) (ht : DTab w) (hs : s < 4294967296) (hid : id < 4294967296) (hr : Row w w.heap.size A n (bv l)) (hn : n ≤ c ∧ c ≤ 9223372036854775807) :
    Calls Tryz.prog 7 #[parV s K0 P0 Z0, .slice A n c, .int .u32 (id : Int), .int .i64 more] w fun e w' => e = .returned (.bool true) ∧ Below w.heap.size w w' := by
  obtain ⟨iu, hui, huz, hus, hub⟩ := info_parts Tryz.info5
  have HID := Lib.hid hid
  clear hid
  have hal : Below w.heap.size w (w.alloc (.cells #[.int .u32 (s : Int), .int .i64 K0, .int .i64 P0, .int .i64 Z0] 35)) := (Below.refl _ _).alloc (Nat.le_refl _) _
  have hx := heap_alloc_new w (.cells #[.int .u32 (s : Int), .int .i64 K0, .int .i64 P0, .int .i64 Z0] 35)
  have hz : (w.alloc (.cells #[.int .u32 (s : Int), .int .i64 K0, .int .i64 P0, .int .i64 Z0] 35)).heap.size = w.heap.size + 1 := by simp
  have HT := Lib.hid ht
  have HSO := Lib.hid (sound12_any s n c w.heap.size K0 P0 Z0 A l (w.alloc (.cells #[.int .u32 (s : Int), .int .i64 K0, .int .i64 P0, .int .i64 Z0] 35)) (hr.below hal) hn hal.size)
  have HAL := Lib.hid hal
  have HX := Lib.hid hx
  have HZ := Lib.hid hz
  obtain ⟨a0, a1, a2, a3⟩ := box4 hx
  have HS := Lib.hid hs
  unfold parV at HSO ⊢
  clear hal hx hz ht hr hn hs
  go_enter Tryz.func7, Tryz.ntmps7
  go_upto_region 1 with fail
  generalize (w.alloc (.cells #[.int .u32 (s : Int), .int .i64 K0, .int .i64 P0, .int .i64 Z0] 35)) = w0 at *
  go_wp2_with fail
  refine HSO.out.mono ?_
  rintro e w1 ⟨kk, P, Z, A1, c1, img, rfl, hf, ho, hb1⟩
  have hx1 := (hb1.out.block w.heap.size (by have := HZ.out; omega)).trans HX.out
  obtain ⟨b0, b1, b2, b3⟩ := box4 hx1
  obtain ⟨f0, f1, f2, f3⟩ := frozenBox hx1
  have HX2 := Lib.hid (setBox hx1 (.int .u32 (s : Int)) (.int .i64 (kk : Int)) (.int .i64 (P : Int)) (.int .i64 (Z : Int)))
  have HB1 := hb1
  have HO2 := Lib.hid (own_set4 ho.out (b := w.heap.size) (by have := HZ.out; omega) (.int .u32 (s : Int)) (.int .i64 (kk : Int)) (.int .i64 (P : Int)) (.int .i64 (Z : Int)))
  have HB2 := Lib.hid (below_set4 (b := w.heap.size) (HAL.out.trans (HB1.out.mono HAL.out.size)) (Nat.le_refl _) (.int .u32 (s : Int)) (.int .i64 (kk : Int)) (.int .i64 (P : Int)) (.int .i64 (Z : Int)))
  clear a0 a1 a2 a3 hx1 HSO hb1 ho HB1
  unfold parV
  go_upto_region 2 with fail
  clear b0 b1 b2 b3 f0 f1 f2 f3
  generalize ((((w1.setCell ⟨w.heap.size, 0, none⟩ (.int .u32 (s : Int))).setCell ⟨w.heap.size, 1, none⟩ (.int .i64 (kk : Int))).setCell ⟨w.heap.size, 2, none⟩ (.int .i64 (P : Int))).setCell ⟨w.heap.size, 3, none⟩ (.int .i64 (Z : Int))) = w2 at *
  obtain ⟨HK, HP, HZZ, HI, HCN⟩ : Hid (1 ≤ kk ∧ kk ≤ 64) ∧ Hid (P ≤ 16) ∧ Hid (1 ≤ Z ∧ Z ≤ 16) ∧ Hid (1 ≤ img.length ∧ img.length ≤ 201) ∧ Hid (BlkM.count (img.length : Int) (Z : Int) = kk) := hf.out
  have hcap := own_cap HO2.out
  have hlt2 : w.heap.size < w2.heap.size := (Array.getElem?_eq_some_iff.1 HX2.out).1
  have HLT2 := Lib.hid hlt2
  clear hf hcap hlt2
  have HFX : Hid (∀ W, Below w2.heap.size w2 W → (W.cell? ⟨w.heap.size, 0, none⟩ = some (.int .u32 (s : Int)) ∧ W.cell? ⟨w.heap.size, 1, none⟩ = some (.int .i64 (kk : Int)) ∧ W.cell? ⟨w.heap.size, 2, none⟩ = some (.int .i64 (P : Int)) ∧ W.cell? ⟨w.heap.size, 3, none⟩ = some (.int .i64 (Z : Int))) ∧ True) := Lib.hid fun W hW => ⟨box4 ((hW.block w.heap.size HLT2.out).trans HX2.out), trivial⟩
  have HIM : Hid (∀ W, Below w2.heap.size w2 W → Row W w2.heap.size A1 img.length (bv img)) := Lib.hid fun W hW => (Row.of_own HO2.out).below hW
  have HDT : Hid (∀ W, Below w2.heap.size w2 W → DTab W) := Lib.hid fun W hW => HT.out.grow (HB2.out.trans (hW.mono HB2.out.size))
  clear HX2 HT
  go_cut [9, 10] (fun s9 s10 wx => ∃ g gd : Nat, s9 = .pointer (some ⟨g, 0, none⟩) ∧ s10 = .pointer (some ⟨gd, 0, none⟩) ∧ Hid (Sep3 (decO gd s kk P Z (matR s kk P Z P) 0) (headO s kk P Z img g) noObj w2 wx))
  case first =>
    refine wp_region_noPanic ?_
    refine wp_region_held_drew (S := (fun W => Below (w2.heap.size) w2 W)) (by kernel_rfl) (Below.refl _ _).drew (fun hH0 => ?_)
    have hH0 : Below (w2.heap.size) w2 w2.drew := hH0
    have S0D : Hid (Sep3 noObj noObj noObj w2 w2.drew) := Lib.hid ((Sep3.start w2).below keeps_no keeps_no keeps_no (Below.refl _ _).drew)
    generalize w2.drew = wd2000 at *
    refine wpAnyH_take (i := 0) (oi := { dst := some 27, op := Op.load 35 (Operand.tmp 4), type := 35, pos := "more.go:33", after := #[], guard := none }) (v := ?tkv2001) rfl (by kernel_rfl) (by kernel_rfl) (by kernel_rfl) (fun _ _ _ h => h) (Or.inl ⟨by rfl, ?tky2001⟩) hH0 ?tkr2001
    case tky2001 => (intro w' hSw; have z0 := HFX.out _ hSw; clear hSw; go_simp; try with_reducible rfl)
    try simp only [Act.put, List.setIfInBounds_toArray, List.set_cons_zero, List.set_cons_succ]
    refine wpAnyH_take (i := 1) (oi := { dst := some 28, op := Op.move (Operand.tmp 1), type := 23, pos := "more.go:33", after := #[], guard := none }) (v := ?tkv2002) rfl (by kernel_rfl) (by kernel_rfl) (by kernel_rfl) (fun _ _ _ h => h) (Or.inl ⟨by rfl, ?tky2002⟩) hH0 ?tkr2002
    case tky2002 => (intro w' hSw; clear hSw; go_simp; try with_reducible rfl)
    try simp only [Act.put, List.setIfInBounds_toArray, List.set_cons_zero, List.set_cons_succ]
    refine wpAnyH_take (i := 3) (oi := { dst := some 30, op := Op.load 35 (Operand.tmp 4), type := 35, pos := "more.go:33", after := #[], guard := none }) (v := ?tkv2003) rfl (by kernel_rfl) (by kernel_rfl) (by kernel_rfl) (fun _ _ _ h => h) (Or.inl ⟨by rfl, ?tky2003⟩) hH0 ?tkr2003
    case tky2003 => (intro w' hSw; have z0 := HFX.out _ hSw; clear hSw; go_simp; try with_reducible rfl)
    try simp only [Act.put, List.setIfInBounds_toArray, List.set_cons_zero, List.set_cons_succ]
    refine wpAnyH_ready (rs := [2]) (by kernel_rfl) (by simp) ?_
    refine AllReadyH.cons (o := { dst := some 29, op := Op.call { callee := Callee.value (Operand.func 15), args := #[Operand.tmp 27, Operand.tmp 28], argTypes := #[35, 23] }, type := 39, pos := "more.go:33", after := #[{ on := 0, ground := Ground.data }, { on := 1, ground := Ground.data }], guard := none }) rfl (fun K hK => ?_) AllReadyH.nil
    go_simp
    refine (new_yes s kk P Z w2.heap.size c1 A1 img wd2000 HK.out HP.out HZZ.out (HIM.out wd2000 (hH0)) (hH0).size (by have := HI.out; omega) HCN.out).mono ?_
    rintro e' wn2004 ⟨g2004, rfl, hg2004, _, hq2004, hb2004'⟩
    have hb2004 := hb2004'.out
    have SS2004 := Lib.hid ((S0D.out.swap.create (A' := headO s kk P Z img g2004) keeps_no keeps_no hb2004 (head_new hq2004.out hg2004)).swap)
    clear hq2004 hg2004 hb2004'
    go_simp
    have hS2004 : Below (w2.heap.size) w2 wn2004 := (hH0).trans (hb2004.mono (hH0).size)
    refine hK.out _ _ hS2004 (fun hH2004 => ?_)
    have hH2004 : Below (w2.heap.size) w2 wn2004 := hH2004
    clear hK K hS2004
    try simp only [Act.put, List.setIfInBounds_toArray, List.set_cons_zero, List.set_cons_succ]
    refine wpAnyH_ready (rs := [4]) (by kernel_rfl) (by simp) ?_
    refine AllReadyH.cons (o := { dst := some 31, op := Op.call { callee := Callee.value (Operand.func 16), args := #[Operand.tmp 30], argTypes := #[35] }, type := 26, pos := "more.go:33", after := #[{ on := 3, ground := Ground.data }, { on := 2, ground := Ground.chain }], guard := none }) rfl (fun K hK => ?_) AllReadyH.nil
    go_simp
    refine (newD s kk P Z wn2004 HS.out HK.out HP.out HZZ.out (HDT.out wn2004 (hH2004))).mono ?_
    rintro e' wn2005 ⟨gd2005, rfl, hd2005, _, hb2005'⟩
    have hb2005 := hb2005'.out
    have SS2005 := Lib.hid (SS2004.out.create (A' := decO gd2005 s kk P Z (matR s kk P Z P) 0) (keeps_head _ _ _ _ _ _) keeps_no hb2005 hd2005.out)
    clear hd2005 hb2005'
    go_simp
    have hS2005 : Below (w2.heap.size) w2 wn2005 := (hH2004).trans (hb2005.mono (hH2004).size)
    refine hK.out _ _ hS2005 (fun hH2005 => ?_)
    have hH2005 : Below (w2.heap.size) w2 wn2005 := hH2005
    clear hK K hS2005
    try simp only [Act.put, List.setIfInBounds_toArray, List.set_cons_zero, List.set_cons_succ]
    refine wpAnyH_take (i := 5) (oi := { dst := some 9, op := Op.assign (Operand.tmp 29), type := 39, pos := "more.go:33", after := #[{ on := 2, ground := Ground.data }, { on := 4, ground := Ground.chain }, { on := 0, ground := Ground.phase }, { on := 1, ground := Ground.phase }, { on := 2, ground := Ground.phase }, { on := 3, ground := Ground.textOnly Departure.lateStores }, { on := 4, ground := Ground.textOnly Departure.lateStoresUnsure }], guard := none }) (v := ?tkv2006) rfl (by kernel_rfl) (by kernel_rfl) (by kernel_rfl) (fun _ _ _ h => h) (Or.inl ⟨by rfl, ?tky2006⟩) hH2005 ?tkr2006
    case tky2006 => (intro w' hSw; clear hSw; go_simp; try with_reducible rfl)
    try simp only [Act.put, List.setIfInBounds_toArray, List.set_cons_zero, List.set_cons_succ]
    refine wpAnyH_take (i := 6) (oi := { dst := some 10, op := Op.assign (Operand.tmp 31), type := 26, pos := "more.go:33", after := #[{ on := 4, ground := Ground.data }, { on := 5, ground := Ground.chain }, { on := 0, ground := Ground.phase }, { on := 1, ground := Ground.phase }, { on := 2, ground := Ground.phase }, { on := 3, ground := Ground.phase }, { on := 4, ground := Ground.phase }, { on := 5, ground := Ground.phase }], guard := none }) (v := ?tkv2007) rfl (by kernel_rfl) (by kernel_rfl) (by kernel_rfl) (fun _ _ _ h => h) (Or.inl ⟨by rfl, ?tky2007⟩) hH2005 ?tkr2007
    case tky2007 => (intro w' hSw; clear hSw; go_simp; try with_reducible rfl)
    try simp only [Act.put, List.setIfInBounds_toArray, List.set_cons_zero, List.set_cons_succ]
    refine wpAnyH_done (by kernel_rfl) ?_ _
    refine NoPanic.normal ?_
    go_wp2_with fail
    go_meet
    exact ⟨g2004, gd2005, rfl, rfl, SS2005⟩
  case rest =>
    obtain ⟨g, gd, rfl, rfl, S3⟩ := hcut
    obtain ⟨w3, rfl⟩ : ∃ x : World, x = wc := ⟨_, rfl⟩
    have OW0 := Lib.hid (own_lit (w := w3) (base := w3.heap.size) (g := w3.heap.size) (n := 0) (e := 5) #[] rfl (Nat.le_refl _) rfl (by unfold maxLen; omega))
    have HBA : Hid (Below w3.heap.size w3 (w3.alloc (.cells #[] 5))) := Lib.hid ((Below.refl _ _).alloc (Nat.le_refl _) _)
    have HBG : Hid (w3.heap.size < (w3.alloc (.cells #[] 5)).heap.size) := Lib.hid (by simp)
    obtain ⟨FH, hh, hFH, hFl, next⟩ := S3.out.swap.first2 (keeps_dec _ _ _ _ _ _ _) keeps_no
    have HNF : Hid (¬ FH w3.heap.size) := Lib.hid fun h => Nat.lt_irrefl _ (hFl _ h)
    have HB3 := Lib.hid S3.out.b
    have HSY := Lib.hid (symH (keeps_head s kk P Z img g _ _ FH hh (fun b _ hl => HBA.out.block b hl) HBA.out.size) HS.out HID.out HK.out HP.out HZZ.out HCN.out (HDT.out _ (HB3.out.trans (HBA.out.mono HB3.out.size))))
    have NEXT := Lib.hid next
    have HFL := Lib.hid hFl
    clear hh hFH hFl next S3
    go_wp2_with fail
    generalize (w3.alloc (.cells #[] 5)) = w3a at *
    refine HSY.out.mono ?_
    rintro e w4 ⟨A4, c4, rfl, ho4, hh4, hf4⟩
    have HF4 : Hid (Fr w3 w4 FH) := Lib.hid ((Fr.of_below (F := FH) HBA.out).trans hf4.out (fun _ _ h => h))
    have HH4 := hh4
    have OW4 : Hid (w4.ownsRow w3.heap.size 5 1 (.slice (some ⟨w3.heap.size, 0, none⟩) 0 0) 0 []) := Lib.hid (own_keep OW0.out fun b hb => by
      obtain rfl : w3.heap.size = b := Option.some.inj hb
      exact hf4.out.block _ HBG.out HNF.out)
    have RW4 := Lib.hid (Row.of_own ho4.out)
    have HS34 : Hid (w3.heap.size < w4.heap.size) := Lib.hid (Nat.lt_of_lt_of_le HBG.out hf4.out.size)
    have hz16 : (Z : Int) ≤ 16 := by have := HZZ.out; omega
    clear HSY hh4 hf4 ho4 OW0 HBA HNF
    go_upto_region 4 with (first
      | (at_builtin; refine wpList_app rfl (.tmp 32) (.tmp 35) 23 rfl w3.heap.size 5 iu (.int .u8 0) 1 Tryz.underlying23 hui huz hus hub rfl _ 0 [] rfl OW4.out _ A4 Z c4 (bv (symX s kk P Z img id)) rfl RW4.out (bv_one _) (by unfold maxLen; omega) (by omega) (Nat.le_of_lt HS34.out) ?_; intro v5 w5 hown5 hg5 hat5; rw [Nat.zero_add, List.nil_append] at hown5; have O5 := Lib.hid hown5; have G5 := Lib.hid hg5; have T5 := Lib.hid hat5; clear hown5 hg5 hat5)
      | (at_builtin; refine wpList_app rfl (.tmp 36) (.tmp 37) 23 rfl w3.heap.size 5 iu (.int .u8 0) 1 Tryz.underlying23 hui huz hus hub rfl _ Z _ rfl (own_below O5.out ((Below.refl _ _).alloc (Nat.le_refl _) _)) _ _ 1 1 (bv [1]) rfl (row_new w5 _ _ _) (bv_one _) (by unfold maxLen; omega) (by omega) (Nat.le_trans (Nat.le_trans (Nat.le_of_lt HS34.out) G5.out.size) ((Below.refl _ _).alloc (Nat.le_refl _) _).size) ?_; intro v6 w6 hown6 hg6 hat6; have O6 := Lib.hid hown6; have G6 := Lib.hid hg6; clear hown6 hg6 hat6))
    obtain ⟨A6, c6, rfl, _⟩ := own_slice O6.out
    have S6 : Hid (Sep3 (decO gd s kk P Z (matR s kk P Z P) 0) (headO s kk P Z img g) noObj w2 w6) := Lib.hid (app_sep HF4.out HH4.out HFL.out HBG.out HS34.out NEXT.out G5.out T5.out G6.out).swap
    clear HF4 HH4 HFL HBG HS34 NEXT G5 T5 G6 O5 O6 OW4 RW4
    obtain ⟨FD, hd6, _, nextd⟩ := S6.out.first (keeps_head _ _ _ _ _ _) keeps_no
    have HDC : Hid (∀ W, Below w6.heap.size w6 W → IsDec W FD gd s kk P Z (matR s kk P Z P) 0) := Lib.hid fun W hW => IsDec.below hd6 hW
    have HB26 := Lib.hid S6.out.b
    have hn80 : kk + P ≤ 80 := by have := HK.out; have := HP.out; omega
    have HINV : Hid (Inv (kk + P) Z (matR s kk P Z P)) := Lib.hid (matR_got hn80 P (Nat.le_refl _)).inv
    have hrk : rankM (matR s kk P Z P) = P := matR_rank hn80 P (Nat.le_refl _)
    have HRK := Lib.hid hrk
    have HNV : Hid ((kk : Int) + (P : Int) - (rankM (matR s kk P Z P) : Int) = (kk : Int)) := Lib.hid (by rw [hrk]; omega)
    have HFX6 : Hid (∀ W, Below w6.heap.size w6 W → (W.cell? ⟨w.heap.size, 0, none⟩ = some (.int .u32 (s : Int)) ∧ W.cell? ⟨w.heap.size, 1, none⟩ = some (.int .i64 (kk : Int)) ∧ W.cell? ⟨w.heap.size, 2, none⟩ = some (.int .i64 (P : Int)) ∧ W.cell? ⟨w.heap.size, 3, none⟩ = some (.int .i64 (Z : Int))) ∧ True) := Lib.hid fun W hW => HFX.out W (HB26.out.trans (hW.mono HB26.out.size))
    have hne0 : ((0 : Int) != (0 : Int)) = false := by simp
    have hnek : ((kk : Int) != (kk : Int)) = false := by simp
    clear hd6 nextd hrk
    refine wp_region_noPanic ?_
    refine wp_region_held_drew (S := (fun W => Below (w6.heap.size) w6 W)) (by kernel_rfl) (Below.refl _ _).drew (fun hH0 => ?_)
    have hH0 : Below (w6.heap.size) w6 w6.drew := hH0
    generalize w6.drew = wd4000 at *
    refine wpAnyH_take (i := 0) (oi := { dst := some 39, op := Op.move (Operand.tmp 10), type := 26, pos := "more.go:35", after := #[], guard := none }) (v := ?tkv4001) rfl (by kernel_rfl) (by kernel_rfl) (by kernel_rfl) (fun _ _ _ h => h) (Or.inl ⟨by rfl, ?tky4001⟩) hH0 ?tkr4001
    case tky4001 => (intro w' hSw; clear hSw; go_simp; try with_reducible rfl)
    try simp only [Act.put, List.setIfInBounds_toArray, List.set_cons_zero, List.set_cons_succ]
    refine wpAnyH_take (i := 1) (oi := { dst := some 40, op := Op.move (Operand.tmp 2), type := 22, pos := "more.go:35", after := #[], guard := none }) (v := ?tkv4002) rfl (by kernel_rfl) (by kernel_rfl) (by kernel_rfl) (fun _ _ _ h => h) (Or.inl ⟨by rfl, ?tky4002⟩) hH0 ?tkr4002
    case tky4002 => (intro w' hSw; clear hSw; go_simp; try with_reducible rfl)
    try simp only [Act.put, List.setIfInBounds_toArray, List.set_cons_zero, List.set_cons_succ]
    refine wpAnyH_take (i := 2) (oi := { dst := some 41, op := Op.move (Operand.tmp 11), type := 23, pos := "more.go:35", after := #[], guard := none }) (v := ?tkv4003) rfl (by kernel_rfl) (by kernel_rfl) (by kernel_rfl) (fun _ _ _ h => h) (Or.inl ⟨by rfl, ?tky4003⟩) hH0 ?tkr4003
    case tky4003 => (intro w' hSw; clear hSw; go_simp; try with_reducible rfl)
    try simp only [Act.put, List.setIfInBounds_toArray, List.set_cons_zero, List.set_cons_succ]
    refine wpAnyH_ready (rs := [3]) (by kernel_rfl) (by simp) ?_
    refine AllReadyH.cons (o := { dst := some 42, op := Op.call { callee := Callee.value (Operand.func 10), args := #[Operand.tmp 39, Operand.tmp 40, Operand.tmp 41], argTypes := #[26, 22, 23] }, type := 4, pos := "more.go:35", after := #[{ on := 0, ground := Ground.data }, { on := 1, ground := Ground.data }, { on := 2, ground := Ground.data }], guard := none }) rfl (fun K hK => ?_) AllReadyH.nil
    go_simp
    refine (take_len FD gd s kk P Z 0 id (Z + 1) c6 A6 _ wd4000 (HDC.out wd4000 (hH0)) HS.out HID.out HK.out HP.out HZZ.out (by have := HZZ.out; omega)).mono ?_
    rintro e' wn4004 ⟨rfl, hb4004'⟩
    have hb4004 := hb4004'.out
    clear hb4004'
    go_simp
    have hS4004 : Below (w6.heap.size) w6 wn4004 := (hH0).trans (hb4004.mono (hH0).size)
    refine hK.out _ _ hS4004 (fun hH4004 => ?_)
    have hH4004 : Below (w6.heap.size) w6 wn4004 := hH4004
    clear hK K hS4004
    try simp only [Act.put, List.setIfInBounds_toArray, List.set_cons_zero, List.set_cons_succ]
    refine wpAnyH_take (i := 4) (oi := { dst := some 43, op := Op.move (Operand.tmp 42), type := 4, pos := "more.go:35", after := #[{ on := 3, ground := Ground.data }, { on := 3, ground := Ground.chain }], guard := none }) (v := ?tkv4005) rfl (by kernel_rfl) (by kernel_rfl) (by kernel_rfl) (fun _ _ _ h => h) (Or.inl ⟨by rfl, ?tky4005⟩) hH4004 ?tkr4005
    case tky4005 => (intro w' hSw; clear hSw; go_simp; try with_reducible rfl)
    try simp only [Act.put, List.setIfInBounds_toArray, List.set_cons_zero, List.set_cons_succ]
    refine wpAnyH_take (i := 5) (oi := { dst := some 44, op := Op.move (Operand.tmp 10), type := 26, pos := "more.go:35", after := #[{ on := 4, ground := Ground.guard }], guard := some (4, false) }) (v := ?tkv4006) rfl (by kernel_rfl) (by kernel_rfl) (by kernel_rfl) (fun _ _ _ h => h) (Or.inl ⟨by rfl, ?tky4006⟩) hH4004 ?tkr4006
    case tky4006 => (intro w' hSw; clear hSw; go_simp; try with_reducible rfl)
    try simp only [Act.put, List.setIfInBounds_toArray, List.set_cons_zero, List.set_cons_succ]
    refine wpAnyH_take (i := 6) (oi := { dst := some 45, op := Op.move (Operand.tmp 2), type := 22, pos := "more.go:35", after := #[{ on := 4, ground := Ground.guard }], guard := some (4, false) }) (v := ?tkv4007) rfl (by kernel_rfl) (by kernel_rfl) (by kernel_rfl) (fun _ _ _ h => h) (Or.inl ⟨by rfl, ?tky4007⟩) hH4004 ?tkr4007
    case tky4007 => (intro w' hSw; clear hSw; go_simp; try with_reducible rfl)
    try simp only [Act.put, List.setIfInBounds_toArray, List.set_cons_zero, List.set_cons_succ]
    refine wpAnyH_ready (rs := [7]) (by kernel_rfl) (by simp) ?_
    refine AllReadyH.cons (o := { dst := some 46, op := Op.call { callee := Callee.value (Operand.func 10), args := #[Operand.tmp 44, Operand.tmp 45, Operand.const (Value.slice none 0 0)], argTypes := #[26, 22, 23] }, type := 4, pos := "more.go:35", after := #[{ on := 5, ground := Ground.data }, { on := 6, ground := Ground.data }, { on := 4, ground := Ground.chain }, { on := 4, ground := Ground.guard }], guard := some (4, false) }) rfl (fun K hK => ?_) AllReadyH.nil
    go_simp
    refine (take_len FD gd s kk P Z 0 id 0 0 none _ wn4004 (HDC.out wn4004 (hH4004)) HS.out HID.out HK.out HP.out HZZ.out (by have := HZZ.out; omega)).mono ?_
    rintro e' wn4008 ⟨rfl, hb4008'⟩
    have hb4008 := hb4008'.out
    clear hb4008'
    go_simp
    have hS4008 : Below (w6.heap.size) w6 wn4008 := (hH4004).trans (hb4008.mono (hH4004).size)
    refine hK.out _ _ hS4008 (fun hH4008 => ?_)
    have hH4008 : Below (w6.heap.size) w6 wn4008 := hH4008
    clear hK K hS4008
    try simp only [Act.put, List.setIfInBounds_toArray, List.set_cons_zero, List.set_cons_succ]
    refine wpAnyH_take (i := 8) (oi := { dst := some 47, op := Op.pick (Operand.tmp 43) (Operand.const (Value.bool true)) (Operand.tmp 46), type := 4, pos := "more.go:35", after := #[{ on := 4, ground := Ground.data }, { on := 7, ground := Ground.data }], guard := none }) (v := ?tkv4009) rfl (by kernel_rfl) (by kernel_rfl) (by kernel_rfl) (fun _ _ _ h => h) (Or.inl ⟨by rfl, ?tky4009⟩) hH4008 ?tkr4009
    case tky4009 => (intro w' hSw; clear hSw; go_simp; try with_reducible rfl)
    try simp only [Act.put, List.setIfInBounds_toArray, List.set_cons_zero, List.set_cons_succ]
    refine wpAnyH_take (i := 9) (oi := { dst := some 48, op := Op.move (Operand.tmp 47), type := 4, pos := "more.go:35", after := #[{ on := 8, ground := Ground.data }, { on := 7, ground := Ground.chain }], guard := none }) (v := ?tkv4010) rfl (by kernel_rfl) (by kernel_rfl) (by kernel_rfl) (fun _ _ _ h => h) (Or.inl ⟨by rfl, ?tky4010⟩) hH4008 ?tkr4010
    case tky4010 => (intro w' hSw; clear hSw; go_simp; try with_reducible rfl)
    try simp only [Act.put, List.setIfInBounds_toArray, List.set_cons_zero, List.set_cons_succ]
    refine wpAnyH_take (i := 10) (oi := { dst := some 49, op := Op.move (Operand.tmp 10), type := 26, pos := "more.go:35", after := #[{ on := 9, ground := Ground.guard }], guard := some (9, false) }) (v := ?tkv4011) rfl (by kernel_rfl) (by kernel_rfl) (by kernel_rfl) (fun _ _ _ h => h) (Or.inl ⟨by rfl, ?tky4011⟩) hH4008 ?tkr4011
    case tky4011 => (intro w' hSw; clear hSw; go_simp; try with_reducible rfl)
    try simp only [Act.put, List.setIfInBounds_toArray, List.set_cons_zero, List.set_cons_succ]
    refine wpAnyH_ready (rs := [11]) (by kernel_rfl) (by simp) ?_
    refine AllReadyH.cons (o := { dst := some 50, op := Op.call { callee := Callee.value (Operand.func 11), args := #[Operand.tmp 49], argTypes := #[26] }, type := 3, pos := "more.go:35", after := #[{ on := 10, ground := Ground.data }, { on := 9, ground := Ground.chain }, { on := 9, ground := Ground.guard }], guard := some (9, false) }) rfl (fun K hK => ?_) AllReadyH.nil
    go_simp
    refine (taken_any FD gd s kk P Z 0 _ wn4008 (HDC.out wn4008 (hH4008))).mono ?_
    rintro e' wx4012 ⟨rfl, rfl⟩
    go_simp
    have hS4012 : Below (w6.heap.size) w6 wn4008 := hH4008
    refine hK.out _ _ hS4012 (fun hH4012 => ?_)
    have hH4012 : Below (w6.heap.size) w6 wn4008 := hH4012
    clear hK K hS4012
    try simp only [Act.put, List.setIfInBounds_toArray, List.set_cons_zero, List.set_cons_succ]
    refine wpAnyH_take (i := 12) (oi := { dst := some 51, op := Op.binOp BinOp.neq 3 (Operand.tmp 50) (Operand.const (Value.int IntKind.i64 0)) 3, type := 4, pos := "more.go:35", after := #[{ on := 11, ground := Ground.data }, { on := 9, ground := Ground.guard }], guard := some (9, false) }) (v := ?tkv4013) rfl (by kernel_rfl) (by kernel_rfl) (by kernel_rfl) (fun _ _ _ h => h) (Or.inl ⟨by rfl, ?tky4013⟩) hH4012 ?tkr4013
    case tky4013 => (intro w' hSw; clear hSw; go_simp; try with_reducible rfl)
    try simp only [Act.put, List.setIfInBounds_toArray, List.set_cons_zero, List.set_cons_succ]
    refine wpAnyH_take (i := 13) (oi := { dst := some 52, op := Op.pick (Operand.tmp 48) (Operand.const (Value.bool true)) (Operand.tmp 51), type := 4, pos := "more.go:35", after := #[{ on := 9, ground := Ground.data }, { on := 12, ground := Ground.data }], guard := none }) (v := ?tkv4014) rfl (by kernel_rfl) (by kernel_rfl) (by kernel_rfl) (fun _ _ _ h => h) (Or.inl ⟨by rfl, ?tky4014⟩) hH4012 ?tkr4014
    case tky4014 => (intro w' hSw; clear hSw; go_simp; try with_reducible rfl)
    try simp only [Act.put, List.setIfInBounds_toArray, List.set_cons_zero, List.set_cons_succ]
    refine wpAnyH_take (i := 14) (oi := { dst := some 53, op := Op.move (Operand.tmp 52), type := 4, pos := "more.go:35", after := #[{ on := 13, ground := Ground.data }, { on := 11, ground := Ground.chain }], guard := none }) (v := ?tkv4015) rfl (by kernel_rfl) (by kernel_rfl) (by kernel_rfl) (fun _ _ _ h => h) (Or.inl ⟨by rfl, ?tky4015⟩) hH4012 ?tkr4015
    case tky4015 => (intro w' hSw; clear hSw; go_simp; try with_reducible rfl)
    try simp only [Act.put, List.setIfInBounds_toArray, List.set_cons_zero, List.set_cons_succ]
    refine wpAnyH_take (i := 15) (oi := { dst := some 54, op := Op.move (Operand.tmp 10), type := 26, pos := "more.go:35", after := #[{ on := 14, ground := Ground.guard }], guard := some (14, false) }) (v := ?tkv4016) rfl (by kernel_rfl) (by kernel_rfl) (by kernel_rfl) (fun _ _ _ h => h) (Or.inl ⟨by rfl, ?tky4016⟩) hH4012 ?tkr4016
    case tky4016 => (intro w' hSw; clear hSw; go_simp; try with_reducible rfl)
    try simp only [Act.put, List.setIfInBounds_toArray, List.set_cons_zero, List.set_cons_succ]
    refine wpAnyH_take (i := 17) (oi := { dst := some 56, op := Op.fieldAddr 35 (Operand.tmp 4) 1, type := 0, pos := "more.go:35", after := #[{ on := 14, ground := Ground.guard }], guard := some (14, false) }) (v := ?tkv4017) rfl (by kernel_rfl) (by kernel_rfl) (by kernel_rfl) (fun _ _ _ h => h) (Or.inl ⟨by rfl, ?tky4017⟩) hH4012 ?tkr4017
    case tky4017 => (intro w' hSw; clear hSw; go_simp; try with_reducible rfl)
    try simp only [Act.put, List.setIfInBounds_toArray, List.set_cons_zero, List.set_cons_succ]
    refine wpAnyH_take (i := 18) (oi := { dst := some 57, op := Op.load 3 (Operand.tmp 56), type := 3, pos := "more.go:35", after := #[{ on := 17, ground := Ground.data }, { on := 14, ground := Ground.guard }], guard := some (14, false) }) (v := ?tkv4018) rfl (by kernel_rfl) (by kernel_rfl) (by kernel_rfl) (fun _ _ _ h => h) (Or.inl ⟨by rfl, ?tky4018⟩) hH4012 ?tkr4018
    case tky4018 => (intro w' hSw; have z0 := HFX6.out _ hSw; clear hSw; go_simp; try with_reducible rfl)
    try simp only [Act.put, List.setIfInBounds_toArray, List.set_cons_zero, List.set_cons_succ]
    refine wpAnyH_ready (rs := [16]) (by kernel_rfl) (by simp) ?_
    refine AllReadyH.cons (o := { dst := some 55, op := Op.call { callee := Callee.value (Operand.func 12), args := #[Operand.tmp 54], argTypes := #[26] }, type := 3, pos := "more.go:35", after := #[{ on := 15, ground := Ground.data }, { on := 14, ground := Ground.chain }, { on := 14, ground := Ground.guard }], guard := some (14, false) }) rfl (fun K hK => ?_) AllReadyH.nil
    go_simp
    refine (needs_any FD gd s kk P Z 0 _ wn4008 (HDC.out wn4008 (hH4012)) HINV.out HK.out HP.out HZZ.out).mono ?_
    rw [HNV.out]
    rintro e' wn4019 ⟨rfl, hb4019'⟩
    have hb4019 := hb4019'.out
    clear hb4019'
    go_simp
    have hS4019 : Below (w6.heap.size) w6 wn4019 := (hH4012).trans (hb4019.mono (hH4012).size)
    refine hK.out _ _ hS4019 (fun hH4019 => ?_)
    have hH4019 : Below (w6.heap.size) w6 wn4019 := hH4019
    clear hK K hS4019
    try simp only [Act.put, List.setIfInBounds_toArray, List.set_cons_zero, List.set_cons_succ]
    refine wpAnyH_take (i := 19) (oi := { dst := some 58, op := Op.binOp BinOp.neq 3 (Operand.tmp 55) (Operand.tmp 57) 3, type := 4, pos := "more.go:35", after := #[{ on := 16, ground := Ground.data }, { on := 18, ground := Ground.data }, { on := 14, ground := Ground.guard }], guard := some (14, false) }) (v := ?tkv4020) rfl (by kernel_rfl) (by kernel_rfl) (by kernel_rfl) (fun _ _ _ h => h) (Or.inl ⟨by rfl, ?tky4020⟩) hH4019 ?tkr4020
    case tky4020 => (intro w' hSw; clear hSw; go_simp; try with_reducible rfl)
    try simp only [Act.put, List.setIfInBounds_toArray, List.set_cons_zero, List.set_cons_succ]
    refine wpAnyH_take (i := 20) (oi := { dst := some 59, op := Op.pick (Operand.tmp 53) (Operand.const (Value.bool true)) (Operand.tmp 58), type := 4, pos := "more.go:35", after := #[{ on := 14, ground := Ground.data }, { on := 19, ground := Ground.data }], guard := none }) (v := ?tkv4021) rfl (by kernel_rfl) (by kernel_rfl) (by kernel_rfl) (fun _ _ _ h => h) (Or.inl ⟨by rfl, ?tky4021⟩) hH4019 ?tkr4021
    case tky4021 => (intro w' hSw; clear hSw; go_simp; try with_reducible rfl)
    try simp only [Act.put, List.setIfInBounds_toArray, List.set_cons_zero, List.set_cons_succ]
    refine wpAnyH_done (by kernel_rfl) ?_ _
    refine NoPanic.normal ?_
    obtain ⟨w7, rfl⟩ : ∃ x : World, x = wn4019 := ⟨_, rfl⟩
    have HB7 : Hid (Below w6.heap.size w6 w7) := Lib.hid (hH4019)
    have S7 := Lib.hid (S6.out.below (keeps_dec _ _ _ _ _ _ _) (keeps_head _ _ _ _ _ _) keeps_no HB7.out)
    have HD7 := Lib.hid (HDC.out w7 HB7.out)
    have HIMP := Lib.hid (image_part FD gd s kk P Z 0 _ (img.length : Int) w7 HD7.out (by rw [HRK.out]; have := HK.out; omega))
    clear HD7 HDC S6 HFX6
    go_wp2_with fail
    refine HIMP.out.mono ?_
    rintro e w8 ⟨rfl, hb8⟩
    have S8 := Lib.hid (S7.out.below (keeps_dec _ _ _ _ _ _ _) (keeps_head _ _ _ _ _ _) keeps_no hb8.out)
    clear HIMP hb8 S7 HB7
    obtain ⟨⟨y0, y1, y2, y3⟩, _⟩ := HFX.out w8 S8.out.b
    have HM0 : Hid (matR s kk P Z P = matU s kk P Z img 0) := Lib.hid rfl
    rw [HM0.out] at S8
    have hk64 : (kk : Int) ≤ 64 := by have := HK.out; omega
    have HN80 := Lib.hid hn80
    go_wp2_with fail
    clear y0 y1 y2 y3
    go_loopw [70] (fun i wr => ∃ k : Nat, k ≤ kk ∧ i = .int .i64 k ∧ Hid (Sep3 (decO gd s kk P Z (matU s kk P Z img k) k) (headO s kk P Z img g) noObj w2 wr)) (fun i _ => kk - (intOf i).toNat)
    case atStart => exact ⟨0, by omega, rfl, S8⟩
    case round =>
      obtain ⟨k, hk, rfl, SR⟩ := hrel
      clear S8
      by_cases hlt : k < kk
      · have hki : (k : Int) < (kk : Int) := by omega
        have hw32 : IntKind.u32.wrap (k : Int) = (k : Int) := by
          have e : IntKind.u32.wrap (k : Int) = (k : Int) % 4294967296 := by simp [IntKind.wrap, IntKind.bits, IntKind.signed]
          rw [e]; omega
        have HKL : Hid (k < 4294967296) := Lib.hid (by omega)
        obtain ⟨FH, hh, _, next⟩ := SR.out.swap.first (keeps_dec _ _ _ _ _ _ _) keeps_no
        have HSY := Lib.hid (symH (id := k) hh HS.out HKL.out HK.out HP.out HZZ.out HCN.out (HDT.out wr SR.out.b))
        have NX := Lib.hid next
        clear hh next
        go_wp2_with fail
        refine HSY.out.mono ?_
        rintro e wa ⟨Aa, ca, rfl, hoa, hha, hfa⟩
        have SA : Hid (Sep3 (decO gd s kk P Z (matU s kk P Z img k) k) (headO s kk P Z img g) noObj w2 wa) := Lib.hid (NX.out wa (headO s kk P Z img g) hha.out hfa.out).swap
        obtain ⟨FA, hda, _, nexta⟩ := SA.out.first (keeps_head _ _ _ _ _ _) keeps_no
        have HTK := Lib.hid (take_any FA gd s kk P Z k k ca Aa (symX s kk P Z img k) _ wa hda (matU_got HK.out.1 HN80.out k (by omega)).inv HS.out HKL.out HK.out HP.out HZZ.out (symX_length HK.out.1 HN80.out) (Row.of_own hoa.out) (HDT.out wa SA.out.b) (by omega))
        obtain ⟨⟨M2, b2⟩, hR⟩ : ∃ R, addMx (kk + P) (matU s kk P Z img k) (spX s kk P k) (symX s kk P Z img k) = R := ⟨_, rfl⟩
        have hb2 := matU_new (s := s) (Z := Z) (img := img) HK.out.1 HN80.out hlt
        have hm2 : (addMx (kk + P) (matU s kk P Z img k) (spX s kk P k) (symX s kk P Z img k)).1 = matU s kk P Z img (k + 1) := rfl
        rw [hR] at hb2 hm2 HTK
        obtain rfl : b2 = true := hb2
        obtain rfl : M2 = matU s kk P Z img (k + 1) := hm2
        have NXA := Lib.hid nexta
        clear HSY NX hoa hha hfa hda nexta hR SR
        go_wp2_with fail
        refine HTK.out.mono ?_
        rintro e wb ⟨rfl, hdb, hfb⟩
        have SB : Hid (Sep3 (decO gd s kk P Z (matU s kk P Z img (k + 1)) (k + 1)) (headO s kk P Z img g) noObj w2 wb) := Lib.hid (NXA.out wb (decO gd s kk P Z (matU s kk P Z img (k + 1)) (k + 1)) hdb.out hfb.out)
        clear HTK NXA hdb hfb SA
        go_wp2_with fail
        go_roundw
        case rel => exact ⟨k + 1, by omega, by go_num, SB⟩
        case measure => simp [intOf]; omega
      · obtain rfl : kk = k := by omega
        clear hlt
        have hgU := matU_got (s := s) (P := P) (Z := Z) (img := img) HK.out.1 HN80.out kk (Nat.le_refl _)
        have HIU := Lib.hid hgU.inv
        have HFU : Hid (rankM (matU s kk P Z img kk) = kk + P) := Lib.hid (matU_full HK.out.1 HN80.out)
        have HNO : Hid (decide ((redM (matU s kk P Z img kk) (spX s kk P id) [] (kk + P)).1 ≠ 0) = false) := Lib.hid (by simp [full_says hgU.inv HFU.out (spX_lt (s := s) (id := id)) []])
        have hcf := count_facts _ _ kk HCN.out (by have := HK.out; omega)
        have HIMG : Hid (joinLs ((solM (matU s kk P Z img kk)).take kk) (img.length : Int) = img) := Lib.hid (by
          rw [full_img hgU.inv HFU.out (matU_data HK.out.1 HN80.out kk (Nat.le_refl _))]
          exact joinLs_img (by have := HI.out; omega) (by have := HI.out; omega) (by have := hcf.2.2.2.2.2.1; exact_mod_cast this))
        have HCM := Lib.hid (count_more HCN.out HK.out.1)
        have HC0 := Lib.hid (count_none (Z : Int) HK.out.1)
        clear hgU hcf
        obtain ⟨⟨y0, y1, y2, y3⟩, _⟩ := HFX.out wr SR.out.b
        obtain ⟨F9, hd9, _, _⟩ := SR.out.first (keeps_head _ _ _ _ _ _) keeps_no
        have HIO := Lib.hid (image_other F9 gd s kk P Z kk _ ((img.length : Int) + (Z : Int)) wr hd9 HFU.out HCM.out)
        have hz16b : (Z : Int) ≤ 16 := by have := HZZ.out; omega
        have hi201 : (img.length : Int) ≤ 201 := by have := HI.out; omega
        clear hd9
        go_wp2_with fail
        refine HIO.out.mono ?_
        rintro e wd ⟨rfl, hbd⟩
        have SD := Lib.hid (SR.out.below (keeps_dec _ _ _ _ _ _ _) (keeps_head _ _ _ _ _ _) keeps_no hbd.out)
        obtain ⟨F10, hd10, _, _⟩ := SD.out.first (keeps_head _ _ _ _ _ _) keeps_no
        have HIO2 := Lib.hid (image_other F10 gd s kk P Z kk _ 0 wd hd10 HFU.out HC0.out)
        clear HIO hbd hd10 SR y0 y1 y2 y3
        go_wp2_with fail
        refine HIO2.out.mono ?_
        rintro e we ⟨rfl, hbe⟩
        have SE := Lib.hid (SD.out.below (keeps_dec _ _ _ _ _ _ _) (keeps_head _ _ _ _ _ _) keeps_no hbe.out)
        obtain ⟨F11, hd11, _, next11⟩ := SE.out.first (keeps_head _ _ _ _ _ _) keeps_no
        have HIA := Lib.hid (image_any F11 gd s kk P Z kk _ (img.length : Int) we hd11 HIU.out HFU.out HCN.out HK.out HP.out)
        have NX11 := Lib.hid next11
        clear HIO2 hbe hd11 next11 SD
        go_wp2_with fail
        refine HIA.out.mono ?_
        rintro e w20 ⟨A20, n20, c20, rfl, hn20, ho20, hd20, hf20⟩
        rw [HIMG.out] at hn20 ho20
        have S20 : Hid (Sep3 (decO gd s kk P Z (matU s kk P Z img kk) kk) (headO s kk P Z img g) noObj w2 w20) := Lib.hid (NX11.out w20 (decO gd s kk P Z (matU s kk P Z img kk) kk) hd20.out hf20.out)
        have HC20 := Lib.hid (conv_own c20 ho20.out)
        have HW20 := Lib.hid S20.out.b
        obtain ⟨F20, hd, _, _⟩ := S20.out.first (keeps_head _ _ _ _ _ _) keeps_no
        have HD20 : Hid (∀ W, Below w20.heap.size w20 W → IsDec W F20 gd s kk P Z (matU s kk P Z img kk) kk) := Lib.hid fun W hW => IsDec.below hd hW
        have HCI : Hid (∀ W, Below w20.heap.size w20 W → (convert 23 9 (.slice A1 img.length c1)).run Tryz.prog W = .ok (.string ⟨img.toArray⟩) W) := Lib.hid fun W hW => conv_row c1 (HIM.out W (HW20.out.trans (hW.mono HW20.out.size))) (HW20.out.trans (hW.mono HW20.out.size)).size W (Below.refl _ _)
        clear HIA NX11 hn20 ho20 hd20 hf20 hd SE S20
        have hk20 := HC20.out w20 (Below.refl _ _)
        have hki20 := HCI.out w20 (Below.refl _ _)
        have hsy := says_any F20 gd s kk P Z kk id _ w20 (HD20.out w20 (Below.refl _ _)) HS.out HID.out HK.out HP.out HZZ.out (HDT.out w20 HW20.out)
        rw [HNO.out] at hsy
        have HSY := Lib.hid hsy
        clear hsy HC20 HCI
        go_wp2_with fail
        refine HSY.out.mono ?_
        rintro e w21 ⟨rfl, hb21⟩
        have HB21 := Lib.hid (HW20.out.trans (hb21.out.mono HW20.out.size))
        clear HSY hb21 hk20 hki20
        go_wp2_with fail
        refine (awake12_any w21 (HDT.out w21 HB21.out)).mono ?_
        rintro e w22 ⟨rfl, hb22⟩
        have HB9 := Lib.hid (HB2.out.trans ((HB21.out.trans (hb22.out.mono HB21.out.size)).mono HB2.out.size))
        clear hb22
        go_wp2_with fail
        go_ret
        exact ⟨rfl, HB9.out⟩
end Go.Proofs.YtpmmolamdlcmnaaGreatDoor.Dc
namespace Go.Proofs.YtpmmolamdlcmnaaGreatDoor
open Go.RowKit Go.ChangeShapes Go.WideShapes Go.ChangeAt Vc
set_option maxRecDepth 100000 in
theorem decodeRefuses_lifted (os : Os) (started : os.Started) (H : Type) (enc : TypeId × Value → H) :
    ReturnsInHanded {} Tryz.checked os 7 .any (fun w args => (Rows.decodeRefusesSpec.pre enc Tryz.prog Tryz.f7 [] false w args ∧ laidMetH Tryz.prog LB w) ∧ sizedMet enc Tryz.prog Tryz.f7 (OpenSpec.ofChange Rows.decodeRefusesSpec) false w args) (Rows.decodeRefusesSpec.post enc Tryz.prog Tryz.f7 false true false false) := by
  refine law_lift_laid (C := Tryz.checked) (tb := 4) (X := fun w _ => laidMetH Tryz.prog LB w) (fun _ _ _ hh h => h.of_heap hh) Tryz.own started (by kernel_rfl) Tryz.func7
    (ChangeSpec.witness_shaped (enc := enc) (C := Tryz.checked) (os := os) (X := fun w _ => laidMetH Tryz.prog LB w) false (World.doorLaid Tryz.prog 400 os) #[.agg #[.int .u32 0, .int .i64 0, .int .i64 0, .int .i64 0], .slice none 0 0, .int .u32 0, .int .i64 0] 8 rfl (World.shaped_of_RefB (by kernel_rfl) (by kernel_rfl)) (by kernel_rfl) (by kernel_rfl) (by kernel_rfl) (door_metB os _)) Tryz.laidOut (by kernel_rfl) rfl rfl Tryz.underlying4 ?_ ?_
  · intro ds hds
    match ds, hds with
    | [_, _, _, _], _ => rfl
  intro W base args ds p hval0 hA0 _ _ hsz0 hX0
  have hval : ∀ (j : Nat) t v, Tryz.f7.params[j]? = some t → args[j]? = some v → Value.okWide Tryz.prog W .any base t v := hval0
  have hA : DataW.TrodAll enc Tryz.prog W 0 (fun _ => true) true Tryz.f7.params.toList args.toList ds p := hA0
  rw [Tryz.params7] at hA hval
  obtain ⟨v0, vs0, d0, ds0, p0, q0, hargs0, hds0, hps0, h0, r0⟩ := trodAll_cons hA
  obtain ⟨v1, vs1, d1, ds1, p1, q1, hargs1, hds1, hps1, h1, r1⟩ := trodAll_cons r0
  obtain ⟨v2, vs2, d2, ds2, p2, q2, hargs2, hds2, hps2, h2, r2⟩ := trodAll_cons r1
  obtain ⟨v3, vs3, d3, ds3, p3, q3, hargs3, hds3, hps3, h3, r3⟩ := trodAll_cons r2
  obtain ⟨e1, _, _⟩ := trodAll_nil r3
  obtain rfl : args = #[v0, v1, v2, v3] := by cases args; simp_all
  obtain ⟨s0, K0, L0, Z0, rfl, hps0, hpK0, hpL0, hpZ0⟩ := open_par Tryz.underlying35 ⟨rfl, rfl, rfl, rfl⟩ Tryz.underlying22 Tryz.underlying3 Tryz.underlying3 Tryz.underlying3 ⟨by kernel_rfl, by kernel_rfl, by kernel_rfl, by kernel_rfl⟩ (by kernel_rfl) (hval 0 35 v0 rfl rfl) h0
  obtain ⟨A1, n1, cap1, l1, rfl, hrow1, hnc1, hcm1⟩ := open_bytes Tryz.underlying23 Tryz.underlying5 Tryz.cells5 (hval 1 23 v1 rfl rfl) h1
  obtain ⟨x2, rfl, hx2⟩ := open_u32 Tryz.underlying22 (hval 2 22 v2 rfl rfl) h2
  obtain ⟨x3, rfl, hx3, hy3⟩ := open_i64 Tryz.underlying3 (hval 3 3 v3 rfl rfl) h3
  exact Dc.dcref_walk s0 n1 cap1 x2 x3 K0 L0 Z0 A1 l1 W (dtab_of_laid hX0) hps0 hx2 hrow1 ⟨hnc1, hcm1⟩

theorem decodeRefuses_holds : Rows.DecodeRefusesSaid :=
  OpenClaim.holds_of_wide 7 Tryz.f7 rfl rfl rfl rfl rfl rfl rfl ⟨rfl, rfl, rfl, rfl, rfl⟩ rfl rfl rfl rfl rfl (by kernel_rfl) Tryz.func7 (by kernel_rfl)
    (of_decide_eq_true (by kernel_rfl)) (by unfold Func.isWrapper; rw [if_neg (of_decide_eq_false (by kernel_rfl))]; exact ⟨rfl, rfl⟩)
    (fun os started H enc _ => decodeRefuses_lifted os started H enc)

theorem decodeRefuses_card : Rows.DecodeRefusesCardSaid :=
  Claim7.holds_tied_plain_at .later [] [.data] true _ false
    decodeRefuses_holds (fun _ h => by cases h) (by kernel_rfl) (fun _ h => by cases h) decodeRefuses_row_tie rfl ⟨rfl, rfl⟩ (by kernel_rfl) rfl
    (fun f fn hf hfn => by
      obtain rfl : f = 7 := Option.some.inj ((show Tryz.prog.funcNamed "downpour/downpourlaw12.DecodeRefuses" = some 7 by kernel_rfl).symm.trans hf) |>.symm
      obtain rfl : fn = Tryz.f7 := (Option.some.inj (Tryz.func7.symm.trans hfn)).symm
      exact ⟨by kernel_rfl, fun j t ht => by
        rw [Tryz.params7] at ht
        have hm : t ∈ [35, 23, 22, 3] := by simpa using Array.mem_of_getElem? ht
        have hall : ([35, 23, 22, 3].all fun u => !Tryz.prog.wantsStandIn u) = true := by kernel_rfl
        exact (show Tryz.prog.wantsStandIn t = false by simpa using List.all_eq_true.1 hall t hm)⟩)
    (by kernel_rfl)
end Go.Proofs.YtpmmolamdlcmnaaGreatDoor
