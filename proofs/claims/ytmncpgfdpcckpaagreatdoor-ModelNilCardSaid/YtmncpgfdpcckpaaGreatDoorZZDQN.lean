/- manifest.Bytes, Parse: by contracts. -/
import Derived.Laws.Append
import Derived.Test.YtmncpgfdpcckpaaGreatDoorManReadQN
import Derived.Test.YtmncpgfdpcckpaaGreatDoorZRQN
import Derived.Test.YtmncpgfdpcckpaaGreatDoorZAQN
import Derived.Test.YtmncpgfdpcckpaaGreatDoorZSQN
set_option maxRecDepth 100000
namespace Go.Proofs.YtmncpgfdpcckpaaGreatDoor
open Go.RowKit
open Sh
def LMan.w32 (M : LMan) : Prop := M.s < 4294967296 ∧ M.v < 4294967296
end Go.Proofs.YtmncpgfdpcckpaaGreatDoor
namespace Go.Proofs.YtmncpgfdpcckpaaGreatDoor
open Go.RowKit
open Sh
def parM (key l : List UInt8) : LMan := if l.length = 76 ∧ tagOf key (l.take 44) = l.drop 44 then readM (l.take 44) else LMan.zero
def parE (key l : List UInt8) : Int := if l.length = 76 then (if tagOf key (l.take 44) = l.drop 44 then readE (l.take 44) else 5) else 3
def MParOk (key l : List UInt8) (w : World) (e : Ending) (w' : World) : Prop := ∃ cs, e = .returned (.tuple #[.agg cs, .int .i64 (parE key l)]) ∧ Hid (IsMan w' (fun b => w.heap.size ≤ b) cs (parM key l)) ∧ Hid (Below w.heap.size w w')
set_option maxHeartbeats 800000 in
theorem manPar_76 (n1 c1 : Nat) (A1 : Option Addr) (key : List UInt8) (c b o : Nat) (l : List UInt8) (w : World) (ht : Tab w) (hk : Row w w.heap.size A1 n1 (bv key)) (hn1 : n1 ≤ 1000000) (hl : Row w w.heap.size (some ⟨b, o, none⟩) 76 (bv l)) (hc : 76 ≤ c) (hc2 : c ≤ 9223372036854775807) :
  Calls Tryz.prog 40 #[.slice A1 n1 c1, .slice (some ⟨b, o, none⟩) 76 c] w (MParOk key l w) := by
 have h76 : l.length = 76 := hl.blen
 have hb0 : Below w.heap.size w (w.alloc (.cells #[.int .u32 0, .int .u32 0, .int .i64 0, .int .i64 0, .int .i64 0, .slice none 0 0] 37)) := (Below.refl _ _).alloc (Nat.le_refl _) _
 have X0 := Lib.hid (heap_alloc_new w (.cells #[.int .u32 0, .int .u32 0, .int .i64 0, .int .i64 0, .int .i64 0, .slice none 0 0] 37))
 have HR := Lib.hid ((hl.below hb0).more hb0.size)
 have HK := Lib.hid ((hk.below hb0).more hb0.size)
 have HT := Lib.hid (ht.below hb0 ht.1)
 have HT0 : Hid (2 + 1 ≤ (w.alloc (.cells #[.int .u32 0, .int .u32 0, .int .i64 0, .int .i64 0, .int .i64 0, .slice none 0 0] 37)).heap.size) := Lib.hid (by have := ht.1; simp; omega)
 have LW : Hid (w.heap.size < (w.alloc (.cells #[.int .u32 0, .int .u32 0, .int .i64 0, .int .i64 0, .int .i64 0, .slice none 0 0] 37)).heap.size) := Lib.hid (by simp)
 have B0 := Lib.hid hb0
 have HL := Lib.hid h76
 have HD : Hid ((l.drop 44).length = 32) := Lib.hid (by simp; omega)
 have q44 : (44 : Int) ≤ c := by omega
 have n44 : ¬ (c : Int) = 44 := by omega
 have m44 : ¬ c = 44 := by omega
 obtain ⟨EE, hEE⟩ : ∃ e, parE key l = e := ⟨_, rfl⟩
 obtain ⟨MM, hMM⟩ : ∃ e, parM key l = e := ⟨_, rfl⟩
 have HEE := Lib.hid hEE
 have HMM := Lib.hid hMM
 have FIN : Hid (∀ e w', (∃ cs, e = .returned (.tuple #[.agg cs, .int .i64 EE]) ∧ Hid (IsMan w' (fun b => w.heap.size ≤ b) cs MM) ∧ Hid (Below w.heap.size w w')) → MParOk key l w e w') := Lib.hid fun e w' h => by unfold MParOk; rw [hEE, hMM]; exact h
 clear hl hb0 h76 ht hk hEE hMM
 go_enter Tryz.func40, Tryz.ntmps40
 go_upto_region 3 with fail
 generalize w.alloc (.cells #[.int .u32 0, .int .u32 0, .int .i64 0, .int .i64 0, .int .i64 0, .slice none 0 0] 37) = w0 at *
 have HQ1 : Hid (∀ W, Below w0.heap.size w0 W → Row W w0.heap.size (some ⟨b, o, none⟩) 44 (bv (l.take 44))) := Lib.hid fun W hW => by rw [← bv_take]; exact (HR.out.below hW).head (by omega)
 have HQ2 : Hid (∀ W, Below w0.heap.size w0 W → Row W w0.heap.size (some ⟨b, o + 44, none⟩) 32 (bv (l.drop 44))) := Lib.hid fun W hW => by rw [← List.take_of_length_le (Nat.le_of_eq HD.out), ← bv_take, ← bv_drop]; exact (HR.out.below hW).sub (by omega) fun b' o' e _ => by injection e with e; injection e with e1 e2; subst e1 e2; rfl
 go_cut [16] (fun s16 wx => s16 = .bool (!(tagOf key (l.take 44) == l.drop 44)) ∧ Hid (Below w0.heap.size w0 wx))
 case first =>
  refine wp_region_noPanic ?_
  refine wp_region_held_drew (S := (fun W => Below (w0.heap.size) w0 W)) (by kernel_rfl) (Below.refl _ _).drew (fun hH0 => ?_)
  have hH0 : Below (w0.heap.size) w0 w0.drew := hH0
  generalize w0.drew = wd3000 at *
  refine wpAnyH_take (i := 0) (oi := { dst := some 10, op := Op.move (Operand.tmp 0), type := 22, pos := _, after := _, guard := none }) (v := ?tkv3001) rfl (by kernel_rfl) (by kernel_rfl) (by kernel_rfl) (fun _ _ _ h => h) (Or.inl ⟨by rfl, ?tky3001⟩) hH0 ?tkr3001
  case tky3001 => (intro w' hSw; clear hSw; go_simp; try with_reducible rfl)
  try simp only [Act.put, zqa, zqb, zqc]
  refine wpAnyH_take (i := 1) (oi := { dst := some 11, op := Op.move (Operand.tmp 1), type := 22, pos := _, after := _, guard := none }) (v := ?tkv3002) rfl (by kernel_rfl) (by kernel_rfl) (by kernel_rfl) (fun _ _ _ h => h) (Or.inl ⟨by rfl, ?tky3002⟩) hH0 ?tkr3002
  case tky3002 => (intro w' hSw; clear hSw; go_simp; try with_reducible rfl)
  try simp only [Act.put, zqa, zqb, zqc]
  refine wpAnyH_take (i := 2) (oi := { dst := some 12, op := Op.slice 22 (Operand.tmp 11) none (some (Operand.const (Value.int IntKind.i64 44))) none, type := 22, pos := _, after := _, guard := none }) (v := ?tkv3003) rfl (by kernel_rfl) (by kernel_rfl) (by kernel_rfl) (fun _ _ _ h => h) (Or.inl ⟨by rfl, ?tky3003⟩) hH0 ?tkr3003
  case tky3003 => (intro w' hSw; clear hSw; go_simp; try with_reducible rfl)
  try simp only [Act.put, zqa, zqb, zqc]
  refine wpAnyH_take (i := 3) (oi := { dst := some 13, op := Op.move (Operand.tmp 1), type := 22, pos := _, after := _, guard := none }) (v := ?tkv3004) rfl (by kernel_rfl) (by kernel_rfl) (by kernel_rfl) (fun _ _ _ h => h) (Or.inl ⟨by rfl, ?tky3004⟩) hH0 ?tkr3004
  case tky3004 => (intro w' hSw; clear hSw; go_simp; try with_reducible rfl)
  try simp only [Act.put, zqa, zqb, zqc]
  refine wpAnyH_take (i := 4) (oi := { dst := some 14, op := Op.slice 22 (Operand.tmp 13) (some (Operand.const (Value.int IntKind.i64 44))) none none, type := 22, pos := _, after := _, guard := none }) (v := ?tkv3005) rfl (by kernel_rfl) (by kernel_rfl) (by kernel_rfl) (fun _ _ _ h => h) (Or.inl ⟨by rfl, ?tky3005⟩) hH0 ?tkr3005
  case tky3005 => (intro w' hSw; clear hSw; go_simp; try with_reducible rfl)
  try simp only [Act.put, zqa, zqb, zqc]
  refine wpAnyH_ready (rs := [5]) (by kernel_rfl) (by simp) ?_
  refine AllReadyH.cons (o := { dst := some 15, op := Op.call { callee := Callee.value (Operand.func 62), args := #[Operand.tmp 10, Operand.tmp 12, Operand.tmp 14], argTypes := #[22, 22, 22] }, type := 4, pos := _, after := _, guard := none }) rfl (fun K hK => ?_) AllReadyH.nil
  go_simp
  refine (right_32 w0.heap.size n1 c1 A1 key w0.heap.size 44 _ _ (l.take 44) w0.heap.size _ _ (l.drop 44) wd3000 (HT.out.below (hH0) HT0.out) (HK.out.below (hH0)) (hH0).size (HQ1.out wd3000 (hH0)) (hH0).size (by omega) (by omega) (HQ2.out wd3000 (hH0)) (hH0).size).mono ?_
  rintro e' wn3006 ⟨rfl, hb3006⟩
  go_simp
  have hS3006 : Below (w0.heap.size) w0 wn3006 := (hH0).trans (hb3006.mono (hH0).size)
  refine hK.out _ _ hS3006 (fun hH3006 => ?_)
  have hH3006 : Below (w0.heap.size) w0 wn3006 := hH3006
  clear hK K hS3006
  try simp only [Act.put, zqa, zqb, zqc]
  refine wpAnyH_take (i := 6) (oi := { dst := some 16, op := Op.unOp UnOp.not 4 (Operand.tmp 15), type := 4, pos := _, after := _, guard := none }) (v := ?tkv3007) rfl (by kernel_rfl) (by kernel_rfl) (by kernel_rfl) (fun _ _ _ h => h) (Or.inl ⟨by rfl, ?tky3007⟩) hH3006 ?tkr3007
  case tky3007 => (intro w' hSw; clear hSw; go_simp; try with_reducible rfl)
  try simp only [Act.put, zqa, zqb, zqc]
  refine wpAnyH_done (by kernel_rfl) ?_ _
  refine NoPanic.normal ?_
  have HEND := Lib.hid (hH3006)
  go_wp2_with fail
  go_meet
  exact ⟨rfl, HEND⟩
 case rest =>
  obtain ⟨rfl, hbl⟩ := hcut
  have HB := Lib.hid (B0.out.trans (hbl.out.mono B0.out.size))
  have X1 := Lib.hid ((hbl.out.block w.heap.size LW.out).trans X0.out)
  have R1 := Lib.hid (((HQ1.out wc hbl.out)).more hbl.out.size)
  obtain ⟨wD, rfl⟩ : ∃ x : World, x = wc := ⟨_, rfl⟩
  clear HQ1 HQ2 HR HK HT HT0 B0 hbl X0
  by_cases htg : tagOf key (l.take 44) = l.drop 44
  ·have qt : (tagOf key (l.take 44) == l.drop 44) = true := by simp [htg]
   rw [qt]
   have HE : Hid (EE = readE (l.take 44)) := Lib.hid (by rw [← HEE.out]; unfold parE; rw [if_pos HL.out, if_pos htg])
   have HM : Hid (MM = readM (l.take 44)) := Lib.hid (by rw [← HMM.out]; unfold parM; rw [if_pos ⟨HL.out, htg⟩])
   clear htg qt HEE HMM
   go_wp2_with fail
   refine (read_any (some ⟨b, o, none⟩) 44 c (l.take 44) wD R1.out (by omega) hc2).mono ?_
   rintro e w2 ⟨cs, rfl, hman, hb2⟩
   have X2 := Lib.hid ((hb2.out.block _ (Array.getElem?_eq_some_iff.1 X1.out).1).trans X1.out)
   have I2 := Lib.hid hman.out.inf
   have O2 := Lib.hid hman.out.one
   have Z2 : Hid (6 = cs.size) := Lib.hid hman.out.size.symm
   have M2 := Lib.hid hman.out
   have B2 := Lib.hid (HB.out.trans (hb2.out.mono HB.out.size))
   have LD : Hid (w.heap.size < wD.heap.size) := Lib.hid (Array.getElem?_eq_some_iff.1 X1.out).1
   clear hman hb2 X1 R1
   go_wp2_with ((with_reducible show wpList _ _ _ _ _ _); refine wpList_store_row rfl _ (.tmp 4) (.tmp 21) rfl (w.heap.size) cs rfl rfl _ _ X2.out I2.out Z2.out O2.out ?_)
   have hrow : (w2.setRow w.heap.size cs).heap[w.heap.size]? = some (.cells cs 37 (0, 0)) := setRow_heap _ _ _ _ _ _ X2.out
   refine bodyPost_ret (results_cell_tmp_row rfl _ _ (w.heap.size) _ _ (0, 0) _ rfl hrow Tryz.underlying37 rfl I2.out) rfl ?_
   refine FIN.out _ _ ?_
   rw [HE.out, HM.out]
   exact ⟨cs, rfl, Lib.hid ((M2.out.keep (by simp) fun b hb _ => setRow_other _ _ _ _ (by have := LD.out; omega)).imp fun b _ hb => by have := LD.out; omega), Lib.hid (below_setRow2 B2.out (Nat.le_refl _) _)⟩
  ·have qt : (tagOf key (l.take 44) == l.drop 44) = false := by simp [htg]
   rw [qt]
   have HE : Hid (EE = 5) := Lib.hid (by rw [← HEE.out]; unfold parE; rw [if_pos HL.out, if_neg htg])
   have HM : Hid (MM = LMan.zero) := Lib.hid (by rw [← HMM.out]; unfold parM; rw [if_neg (fun h => htg h.2)])
   clear htg qt HEE HMM
   go_wp2_with ((with_reducible show wpList _ _ _ _ _ _); refine wpList_store_row rfl _ (.tmp 4) (.tmp 17) rfl (w.heap.size) #[.int .u32 0, .int .u32 0, .int .i64 0, .int .i64 0, .int .i64 0, .slice none 0 0] rfl rfl _ _ X1.out (by kernel_rfl) (by rfl) (by simp [Value.oneCell']) ?_)
   have hrow : (wD.setRow w.heap.size #[.int .u32 0, .int .u32 0, .int .i64 0, .int .i64 0, .int .i64 0, .slice none 0 0]).heap[w.heap.size]? = some (.cells #[.int .u32 0, .int .u32 0, .int .i64 0, .int .i64 0, .int .i64 0, .slice none 0 0] 37 (0, 0)) := setRow_heap _ _ _ _ _ _ X1.out
   refine bodyPost_ret (results_cell_tmp_row rfl _ _ (w.heap.size) _ _ (0, 0) _ rfl hrow Tryz.underlying37 rfl (by kernel_rfl)) rfl ?_
   refine FIN.out _ _ ?_
   rw [HE.out, HM.out]
   exact ⟨_, rfl, Lib.hid ⟨none, 0, rfl, .nil _ _ _⟩, Lib.hid (below_setRow2 HB.out (Nat.le_refl _) _)⟩
set_option maxHeartbeats 400000 in
theorem manPar_len (n1 c1 : Nat) (A1 : Option Addr) (key : List UInt8) (A : Option Addr) (n c : Nat) (l : List UInt8) (w : World) (hl : l.length = n) (hn : n ≠ 76) :
  Calls Tryz.prog 40 #[.slice A1 n1 c1, .slice A n c] w (MParOk key l w) := by
 have hE : parE key l = 3 := by unfold parE; rw [if_neg (fun h => hn (hl.symm.trans h))]
 have hM : parM key l = LMan.zero := by unfold parM; rw [if_neg (fun h => hn (hl.symm.trans h.1))]
 have q : ((n : Int) != 76) = true := by simp; omega
 unfold MParOk
 rw [hE, hM]
 clear hE hM
 have HN := Lib.hid hn
 clear hn hl
 have X0 := Lib.hid (heap_alloc_new w (.cells #[.int .u32 0, .int .u32 0, .int .i64 0, .int .i64 0, .int .i64 0, .slice none 0 0] 37))
 have B0 : Hid (Below w.heap.size w (w.alloc (.cells #[.int .u32 0, .int .u32 0, .int .i64 0, .int .i64 0, .int .i64 0, .slice none 0 0] 37))) := Lib.hid ((Below.refl _ _).alloc (Nat.le_refl _) _)
 go_enter Tryz.func40, Tryz.ntmps40
 go_upto_region 2 with fail
 generalize w.alloc (.cells #[.int .u32 0, .int .u32 0, .int .i64 0, .int .i64 0, .int .i64 0, .slice none 0 0] 37) = w0 at *
 go_wp2_with ((with_reducible show wpList _ _ _ _ _ _); refine wpList_store_row rfl _ (.tmp 4) (.tmp 9) rfl (w.heap.size) #[.int .u32 0, .int .u32 0, .int .i64 0, .int .i64 0, .int .i64 0, .slice none 0 0] rfl rfl _ _ X0.out (by kernel_rfl) (by rfl) (by simp [Value.oneCell']) ?_)
 have hrow : (w0.setRow w.heap.size #[.int .u32 0, .int .u32 0, .int .i64 0, .int .i64 0, .int .i64 0, .slice none 0 0]).heap[w.heap.size]? = some (.cells #[.int .u32 0, .int .u32 0, .int .i64 0, .int .i64 0, .int .i64 0, .slice none 0 0] 37 (0, 0)) := setRow_heap _ _ _ _ _ _ X0.out
 refine bodyPost_ret (results_cell_tmp_row rfl _ _ (w.heap.size) _ _ (0, 0) _ rfl hrow Tryz.underlying37 rfl (by kernel_rfl)) rfl ?_
 exact ⟨_, rfl, Lib.hid ⟨none, 0, rfl, .nil _ _ _⟩, Lib.hid (below_setRow2 B0.out (Nat.le_refl _) _)⟩
theorem manPar_any (n1 c1 : Nat) (A1 : Option Addr) (key : List UInt8) (A : Option Addr) (n c : Nat) (l : List UInt8) (w : World) (ht : Tab w) (hk : Row w w.heap.size A1 n1 (bv key)) (hn1 : n1 ≤ 1000000) (hl : Row w w.heap.size A n (bv l)) (hc : n ≤ c) (hc2 : c ≤ 9223372036854775807) :
  Calls Tryz.prog 40 #[.slice A1 n1 c1, .slice A n c] w (MParOk key l w) := by
 by_cases hn : n = 76
 ·subst hn
  obtain ⟨b, o, rfl, _⟩ := hl.2 (by omega)
  exact manPar_76 n1 c1 A1 key c b o l w ht hk hn1 hl hc hc2
 ·exact manPar_len n1 c1 A1 key A n c l w hl.blen hn
end Go.Proofs.YtmncpgfdpcckpaaGreatDoor
namespace Go.Proofs.YtmncpgfdpcckpaaGreatDoor
open Go.RowKit
open Sh
theorem may_32' {M : LMan} (h : M.may = true) : M.h.length = 32 := by
 obtain ⟨_, _, _, _, _, _, _, _, _, _, _, h32⟩ := man_bounds h
 exact h32
theorem par_split {M : LMan} (t : List UInt8) (hm : M.may = true) : (M.bytes ++ t).take 44 = M.bytes ∧ (M.bytes ++ t).drop 44 = t := by
 have h : M.bytes.length = 44 := by rw [bytes_len, may_32' hm]
 rw [← h]
 exact ⟨List.take_left, List.drop_left⟩
theorem par_bytes (key : List UInt8) {M : LMan} (hm : M.may = true) (hw : M.w32) : parE key (M.bytes ++ tagOf key M.bytes) = 0 ∧ parM key (M.bytes ++ tagOf key M.bytes) = M := by
 have h : M.bytes.length = 44 := by rw [bytes_len, may_32' hm]
 have hl : (M.bytes ++ tagOf key M.bytes).length = 76 := by rw [List.length_append, h, tagOf_length]
 obtain ⟨e1, e2⟩ := par_split (tagOf key M.bytes) hm
 have r := readM_bytes (M := M) ⟨hm, hw.1, hw.2⟩
 unfold parE parM
 rw [e1, e2, if_pos hl, if_pos rfl, if_pos ⟨hl, rfl⟩]
 exact ⟨r.2, r.1⟩
end Go.Proofs.YtmncpgfdpcckpaaGreatDoor
