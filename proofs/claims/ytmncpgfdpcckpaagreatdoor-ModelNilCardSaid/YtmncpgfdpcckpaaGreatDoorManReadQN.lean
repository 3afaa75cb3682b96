/- manifest.Read: by contract. -/
import Derived.Test.YtmncpgfdpcckpaaGreatDoorZVQN
set_option maxRecDepth 100000
namespace Go.Proofs.YtmncpgfdpcckpaaGreatDoor
open Go.RowKit
theorem own_rowP {w : World} {B n c lo : Nat} {A : Option Addr} {l : List UInt8} (h : w.ownsRow B 5 1 (.slice A n c) n (bv l)) (hB : lo < B) : RowP w (fun b => lo < b) A n (bv l) := by
 refine ⟨(Row.of_own h).1, fun hn => ?_⟩
 obtain ⟨b, o, e, hlt, hc⟩ := (Row.of_own h).2 hn
 exact ⟨b, o, e, hlt, Nat.lt_of_lt_of_le hB (h.lt b (by rw [e]; rfl)).1, hc⟩
theorem own_rowQ {w : World} {B n c lo g : Nat} {A : Option Addr} {l : List UInt8} (h : w.ownsRow B 5 1 (.slice A n c) n (bv l)) (hg : g < B) (hB : lo < B) : RowP w (fun b => lo < b ∧ b ≠ g) A n (bv l) := by
 refine ⟨(Row.of_own h).1, fun hn => ?_⟩
 obtain ⟨b, o, e, hlt, hc⟩ := (Row.of_own h).2 hn
 have := (h.lt b (by rw [e]; rfl)).1
 exact ⟨b, o, e, hlt, ⟨by omega, by omega⟩, hc⟩
theorem num_lt2 (l : List UInt8) (h : l.length ≤ 2) : CrcM.number l < 65536 := by
 match l, h with
 | [], _ => simp [CrcM.number]
 | [a], _ => have := CrcM.b_lt a; simp only [CrcM.number, List.foldl_cons, List.foldl_nil]; omega
 | [a, b], _ => have := CrcM.b_lt a; have := CrcM.b_lt b; simp only [CrcM.number, List.foldl_cons, List.foldl_nil]; omega
set_option maxHeartbeats 1600000 in
theorem read_44 (c b o : Nat) (l : List UInt8) (w : World) (hl : Row w w.heap.size (some ⟨b, o, none⟩) 44 (bv l)) (hc : 44 ≤ c) (hc2 : c ≤ 9223372036854775807) :
  Calls Tryz.prog 63 #[.slice (some ⟨b, o, none⟩) 44 c] w fun e w' => ∃ cs, e = .returned (.tuple #[.agg cs, .int .i64 (readE l)]) ∧ Hid (IsMan w' (fun b => w.heap.size ≤ b) cs (readM l)) ∧ Hid (Below w.heap.size w w') := by
 have h44 : l.length = 44 := by have := hl.1; rwa [bv_length] at this
 have hb0 : Below w.heap.size w (w.alloc (.cells #[.int .u32 0, .int .u32 0, .int .i64 0, .int .i64 0, .int .i64 0, .slice none 0 0] 37)) := (Below.refl _ _).alloc (Nat.le_refl _) _
 have X0 := Lib.hid (heap_alloc_new w (.cells #[.int .u32 0, .int .u32 0, .int .i64 0, .int .i64 0, .int .i64 0, .slice none 0 0] 37))
 have HR := Lib.hid ((hl.below hb0).more hb0.size)
 have LW : Hid (w.heap.size < (w.alloc (.cells #[.int .u32 0, .int .u32 0, .int .i64 0, .int .i64 0, .int .i64 0, .slice none 0 0] 37)).heap.size) := Lib.hid (by simp)
 have B0 := Lib.hid hb0
 have HL := Lib.hid h44
 have HD12 : Hid ((l.drop 12).length = 32) := Lib.hid (by simp; omega)
 have i10 : 10 < l.length := by omega
 have i11 : 11 < l.length := by omega
 have b10 := CrcM.b_lt l[10]
 have b11 := CrcM.b_lt l[11]
 have q4 : (4 : Int) ≤ c := by omega
 have q8 : (8 : Int) ≤ c := by omega
 have q10 : (10 : Int) ≤ c := by omega
 have q12 : (12 : Int) ≤ c := by omega
 have n4 : ¬ (c : Int) = 4 := by omega
 have n8 : ¬ (c : Int) = 8 := by omega
 have n12 : ¬ (c : Int) = 12 := by omega
 have m4 : ¬ c = 4 := by omega
 have m8 : ¬ c = 8 := by omega
 have m12 : ¬ c = 12 := by omega
 clear hl hb0 h44
 go_enter Tryz.func63, Tryz.ntmps63
 go_upto_region 3 with fail
 generalize w.alloc (.cells #[.int .u32 0, .int .u32 0, .int .i64 0, .int .i64 0, .int .i64 0, .slice none 0 0] 37) = w0 at *
 have HQ1 : Hid (∀ W, Below w0.heap.size w0 W → Row W w0.heap.size (some ⟨b, o, none⟩) 4 (bv (l.take 4))) := Lib.hid fun W hW => by rw [← bv_take]; exact (HR.out.below hW).head (by omega)
 have HQ2 : Hid (∀ W, Below w0.heap.size w0 W → Row W w0.heap.size (some ⟨b, o + 4, none⟩) 4 (bv ((l.drop 4).take 4))) := Lib.hid fun W hW => by rw [← bv_take, ← bv_drop]; exact (HR.out.below hW).sub (by omega) fun b' o' e _ => by injection e with e; injection e with e1 e2; subst e1 e2; rfl
 have HQ3 : Hid (∀ W, Below w0.heap.size w0 W → Row W w0.heap.size (some ⟨b, o + 8, none⟩) 2 (bv ((l.drop 8).take 2))) := Lib.hid fun W hW => by rw [← bv_take, ← bv_drop]; exact (HR.out.below hW).sub (by omega) fun b' o' e _ => by injection e with e; injection e with e1 e2; subst e1 e2; rfl
 have HQ4 : Hid (∀ W, Below w0.heap.size w0 W → Row W w0.heap.size (some ⟨b, o + 12, none⟩) 32 (bv (l.drop 12))) := Lib.hid fun W hW => by rw [← List.take_of_length_le (Nat.le_of_eq HD12.out), ← bv_take, ← bv_drop]; exact (HR.out.below hW).sub (by omega) fun b' o' e _ => by injection e with e; injection e with e1 e2; subst e1 e2; rfl
 have HC : Hid (∀ W, Below w0.heap.size w0 W → W.cell? ⟨b, o + 10, none⟩ = some (.int .u8 (l[10].toNat : Int)) ∧ W.cell? ⟨b, o + 11, none⟩ = some (.int .u8 (l[11].toNat : Int))) := Lib.hid fun W hW => by
  have hr := HR.out.below hW
  obtain ⟨b', o', e, _, _, h1⟩ := hr.byteAt (k := 10) (by omega)
  obtain ⟨b2, o2, e2, _, _, h2⟩ := hr.byteAt (k := 11) (by omega)
  injection e with e; injection e with e1 e3; subst e1 e3
  injection e2 with e2; injection e2 with e1 e3; subst e1 e3
  exact ⟨h1, h2⟩
 have HW3 : Hid (IntKind.i64.wrap ((CrcM.number ((l.drop 8).take 2) : Nat) : Int) = (CrcM.number ((l.drop 8).take 2) : Nat)) := Lib.hid (IntWalk.i64_in _ (by have := num_lt2 ((l.drop 8).take 2) (by simp; omega); omega))
 have HW10 : Hid (IntKind.i64.wrap (l[10].toNat : Int) = (l[10].toNat : Int)) := Lib.hid (IntWalk.i64_in _ (by omega))
 have HW11 : Hid (IntKind.i64.wrap (l[11].toNat : Int) = (l[11].toNat : Int)) := Lib.hid (IntWalk.i64_in _ (by omega))
 go_cut [4] (fun s4 wx => ∃ g A c, s4 = .pointer (some ⟨g, 0, none⟩) ∧ Hid (wx.heap[g]? = some (.cells #[.int .u32 (CrcM.number (l.take 4) : Nat), .int .u32 (CrcM.number ((l.drop 4).take 4) : Nat), .int .i64 (CrcM.number ((l.drop 8).take 2) : Nat), .int .i64 (l[10].toNat : Int), .int .i64 (l[11].toNat : Int), .slice A 32 c] 37 (0, 0))) ∧ Hid (RowP wx (fun b => w.heap.size < b) A 32 (bv (l.drop 12))) ∧ Hid (Below w0.heap.size w0 wx))
 case first =>
  refine wp_region_noPanic ?_
  refine wp_region_held_drew (S := (fun W => Below (w0.heap.size) w0 W)) (by kernel_rfl) (Below.refl _ _).drew (fun hH0 => ?_)
  have hH0 : Below (w0.heap.size) w0 w0.drew := hH0
  generalize w0.drew = wd3000 at *
  refine wpAnyH_take (i := 0) (oi := { dst := some 9, op := Op.move (Operand.tmp 0), type := 22, pos := _, after := _, guard := none }) (v := ?tkv3001) rfl (by kernel_rfl) (by kernel_rfl) (by kernel_rfl) (fun _ _ _ h => h) (Or.inl ⟨by rfl, ?tky3001⟩) hH0 ?tkr3001
  case tky3001 => (intro w' hSw; clear hSw; go_simp; try with_reducible rfl)
  try simp only [Act.put, zqa, zqb, zqc]
  refine wpAnyH_take (i := 1) (oi := { dst := some 10, op := Op.slice 22 (Operand.tmp 9) none (some (Operand.const (Value.int IntKind.i64 4))) none, type := 22, pos := _, after := _, guard := none }) (v := ?tkv3002) rfl (by kernel_rfl) (by kernel_rfl) (by kernel_rfl) (fun _ _ _ h => h) (Or.inl ⟨by rfl, ?tky3002⟩) hH0 ?tkr3002
  case tky3002 => (intro w' hSw; have z0 := HC.out _ hSw; clear hSw; go_simp; try with_reducible rfl)
  try simp only [Act.put, zqa, zqb, zqc]
  refine wpAnyH_take (i := 3) (oi := { dst := some 12, op := Op.move (Operand.tmp 0), type := 22, pos := _, after := _, guard := none }) (v := ?tkv3003) rfl (by kernel_rfl) (by kernel_rfl) (by kernel_rfl) (fun _ _ _ h => h) (Or.inl ⟨by rfl, ?tky3003⟩) hH0 ?tkr3003
  case tky3003 => (intro w' hSw; clear hSw; go_simp; try with_reducible rfl)
  try simp only [Act.put, zqa, zqb, zqc]
  refine wpAnyH_take (i := 4) (oi := { dst := some 13, op := Op.slice 22 (Operand.tmp 12) (some (Operand.const (Value.int IntKind.i64 4))) (some (Operand.const (Value.int IntKind.i64 8))) none, type := 22, pos := _, after := _, guard := none }) (v := ?tkv3004) rfl (by kernel_rfl) (by kernel_rfl) (by kernel_rfl) (fun _ _ _ h => h) (Or.inl ⟨by rfl, ?tky3004⟩) hH0 ?tkr3004
  case tky3004 => (intro w' hSw; have z0 := HC.out _ hSw; clear hSw; go_simp; try with_reducible rfl)
  try simp only [Act.put, zqa, zqb, zqc]
  refine wpAnyH_take (i := 6) (oi := { dst := some 15, op := Op.move (Operand.tmp 0), type := 22, pos := _, after := _, guard := none }) (v := ?tkv3005) rfl (by kernel_rfl) (by kernel_rfl) (by kernel_rfl) (fun _ _ _ h => h) (Or.inl ⟨by rfl, ?tky3005⟩) hH0 ?tkr3005
  case tky3005 => (intro w' hSw; clear hSw; go_simp; try with_reducible rfl)
  try simp only [Act.put, zqa, zqb, zqc]
  refine wpAnyH_take (i := 7) (oi := { dst := some 16, op := Op.slice 22 (Operand.tmp 15) (some (Operand.const (Value.int IntKind.i64 8))) (some (Operand.const (Value.int IntKind.i64 10))) none, type := 22, pos := _, after := _, guard := none }) (v := ?tkv3006) rfl (by kernel_rfl) (by kernel_rfl) (by kernel_rfl) (fun _ _ _ h => h) (Or.inl ⟨by rfl, ?tky3006⟩) hH0 ?tkr3006
  case tky3006 => (intro w' hSw; have z0 := HC.out _ hSw; clear hSw; go_simp; try with_reducible rfl)
  try simp only [Act.put, zqa, zqb, zqc]
  refine wpAnyH_take (i := 10) (oi := { dst := some 19, op := Op.move (Operand.tmp 0), type := 22, pos := _, after := _, guard := none }) (v := ?tkv3007) rfl (by kernel_rfl) (by kernel_rfl) (by kernel_rfl) (fun _ _ _ h => h) (Or.inl ⟨by rfl, ?tky3007⟩) hH0 ?tkr3007
  case tky3007 => (intro w' hSw; clear hSw; go_simp; try with_reducible rfl)
  try simp only [Act.put, zqa, zqb, zqc]
  refine wpAnyH_take (i := 11) (oi := { dst := some 20, op := Op.indexAddr 22 (Operand.tmp 19) (Operand.const (Value.int IntKind.i64 10)), type := 0, pos := _, after := _, guard := none }) (v := ?tkv3008) rfl (by kernel_rfl) (by kernel_rfl) (by kernel_rfl) (fun _ _ _ h => h) (Or.inl ⟨by rfl, ?tky3008⟩) hH0 ?tkr3008
  case tky3008 => (intro w' hSw; clear hSw; go_simp; try with_reducible rfl)
  try simp only [Act.put, zqa, zqb, zqc]
  refine wpAnyH_take (i := 12) (oi := { dst := some 21, op := Op.load 5 (Operand.tmp 20), type := 5, pos := _, after := _, guard := none }) (v := ?tkv3009) rfl (by kernel_rfl) (by kernel_rfl) (by kernel_rfl) (fun _ _ _ h => h) (Or.inl ⟨by rfl, ?tky3009⟩) hH0 ?tkr3009
  case tky3009 => (intro w' hSw; have z0 := HC.out _ hSw; clear hSw; go_simp; try with_reducible rfl)
  try simp only [Act.put, zqa, zqb, zqc]
  refine wpAnyH_take (i := 13) (oi := { dst := some 22, op := Op.convert 5 3 (Operand.tmp 21), type := 3, pos := _, after := _, guard := none }) (v := ?tkv3010) rfl (by kernel_rfl) (by kernel_rfl) (by kernel_rfl) (fun _ _ _ h => h) (Or.inl ⟨by rfl, ?tky3010⟩) hH0 ?tkr3010
  case tky3010 => (intro w' hSw; have z0 := HC.out _ hSw; clear hSw; go_simp; try with_reducible rfl)
  try simp only [Act.put, zqa, zqb, zqc]
  refine wpAnyH_take (i := 14) (oi := { dst := some 23, op := Op.move (Operand.tmp 0), type := 22, pos := _, after := _, guard := none }) (v := ?tkv3011) rfl (by kernel_rfl) (by kernel_rfl) (by kernel_rfl) (fun _ _ _ h => h) (Or.inl ⟨by rfl, ?tky3011⟩) hH0 ?tkr3011
  case tky3011 => (intro w' hSw; clear hSw; go_simp; try with_reducible rfl)
  try simp only [Act.put, zqa, zqb, zqc]
  refine wpAnyH_take (i := 15) (oi := { dst := some 24, op := Op.indexAddr 22 (Operand.tmp 23) (Operand.const (Value.int IntKind.i64 11)), type := 0, pos := _, after := _, guard := none }) (v := ?tkv3012) rfl (by kernel_rfl) (by kernel_rfl) (by kernel_rfl) (fun _ _ _ h => h) (Or.inl ⟨by rfl, ?tky3012⟩) hH0 ?tkr3012
  case tky3012 => (intro w' hSw; clear hSw; go_simp; try with_reducible rfl)
  try simp only [Act.put, zqa, zqb, zqc]
  refine wpAnyH_take (i := 16) (oi := { dst := some 25, op := Op.load 5 (Operand.tmp 24), type := 5, pos := _, after := _, guard := none }) (v := ?tkv3013) rfl (by kernel_rfl) (by kernel_rfl) (by kernel_rfl) (fun _ _ _ h => h) (Or.inl ⟨by rfl, ?tky3013⟩) hH0 ?tkr3013
  case tky3013 => (intro w' hSw; have z0 := HC.out _ hSw; clear hSw; go_simp; try with_reducible rfl)
  try simp only [Act.put, zqa, zqb, zqc]
  refine wpAnyH_take (i := 17) (oi := { dst := some 26, op := Op.convert 5 3 (Operand.tmp 25), type := 3, pos := _, after := _, guard := none }) (v := ?tkv3014) rfl (by kernel_rfl) (by kernel_rfl) (by kernel_rfl) (fun _ _ _ h => h) (Or.inl ⟨by rfl, ?tky3014⟩) hH0 ?tkr3014
  case tky3014 => (intro w' hSw; have z0 := HC.out _ hSw; clear hSw; go_simp; try with_reducible rfl)
  try simp only [Act.put, zqa, zqb, zqc]
  refine wpAnyH_take (i := 18) (oi := { dst := some 27, op := Op.move (Operand.tmp 0), type := 22, pos := _, after := _, guard := none }) (v := ?tkv3015) rfl (by kernel_rfl) (by kernel_rfl) (by kernel_rfl) (fun _ _ _ h => h) (Or.inl ⟨by rfl, ?tky3015⟩) hH0 ?tkr3015
  case tky3015 => (intro w' hSw; clear hSw; go_simp; try with_reducible rfl)
  try simp only [Act.put, zqa, zqb, zqc]
  refine wpAnyH_take (i := 19) (oi := { dst := some 28, op := Op.slice 22 (Operand.tmp 27) (some (Operand.const (Value.int IntKind.i64 12))) none none, type := 22, pos := _, after := _, guard := none }) (v := ?tkv3016) rfl (by kernel_rfl) (by kernel_rfl) (by kernel_rfl) (fun _ _ _ h => h) (Or.inl ⟨by rfl, ?tky3016⟩) hH0 ?tkr3016
  case tky3016 => (intro w' hSw; have z0 := HC.out _ hSw; clear hSw; go_simp; try with_reducible rfl)
  try simp only [Act.put, zqa, zqb, zqc]
  refine wpAnyH_ready (rs := [2, 22]) (by kernel_rfl) (by simp) ?_
  refine AllReadyH.cons (o := { dst := some 11, op := Op.call { callee := Callee.value (Operand.func 98), args := #[Operand.tmp 10], argTypes := #[22] }, type := 32, pos := _, after := _, guard := none }) rfl (fun K hK => ?_) (AllReadyH.cons (o := { dst := some 4, op := Op.alloc 37, type := 0, pos := _, after := _, guard := none }) rfl (fun K hK => ?_) AllReadyH.nil)
  ·go_simp
   refine (manNum_any w0.heap.size 4 _ _ _ wd3000 (HQ1.out wd3000 (hH0)) (by omega)).mono ?_
   rintro e' _ ⟨rfl, rfl⟩
   go_simp
   have hS3017 : Below (w0.heap.size) w0 wd3000 := hH0
   refine hK.out _ _ hS3017 (fun hH3017 => ?_)
   have hH3017 : Below (w0.heap.size) w0 wd3000 := hH3017
   clear hK K hS3017
   try simp only [Act.put, zqa, zqb, zqc]
   refine wpAnyH_ready (rs := [5, 22]) (by kernel_rfl) (by simp) ?_
   refine AllReadyH.cons (o := { dst := some 14, op := Op.call { callee := Callee.value (Operand.func 98), args := #[Operand.tmp 13], argTypes := #[22] }, type := 32, pos := _, after := _, guard := none }) rfl (fun K hK => ?_) (AllReadyH.cons (o := { dst := some 4, op := Op.alloc 37, type := 0, pos := _, after := _, guard := none }) rfl (fun K hK => ?_) AllReadyH.nil)
   ·go_simp
    refine (manNum_any w0.heap.size 4 _ _ _ wd3000 (HQ2.out wd3000 (hH3017)) (by omega)).mono ?_
    rintro e' _ ⟨rfl, rfl⟩
    go_simp
    have hS3018 : Below (w0.heap.size) w0 wd3000 := hH3017
    refine hK.out _ _ hS3018 (fun hH3018 => ?_)
    have hH3018 : Below (w0.heap.size) w0 wd3000 := hH3018
    clear hK K hS3018
    try simp only [Act.put, zqa, zqb, zqc]
    refine wpAnyH_ready (rs := [8, 22]) (by kernel_rfl) (by simp) ?_
    refine AllReadyH.cons (o := { dst := some 17, op := Op.call { callee := Callee.value (Operand.func 98), args := #[Operand.tmp 16], argTypes := #[22] }, type := 32, pos := _, after := _, guard := none }) rfl (fun K hK => ?_) (AllReadyH.cons (o := { dst := some 4, op := Op.alloc 37, type := 0, pos := _, after := _, guard := none }) rfl (fun K hK => ?_) AllReadyH.nil)
    ·go_simp
     refine (manNum_any w0.heap.size 2 _ _ _ wd3000 (HQ3.out wd3000 (hH3018)) (by omega)).mono ?_
     rintro e' _ ⟨rfl, rfl⟩
     go_simp
     have hS3019 : Below (w0.heap.size) w0 wd3000 := hH3018
     refine hK.out _ _ hS3019 (fun hH3019 => ?_)
     have hH3019 : Below (w0.heap.size) w0 wd3000 := hH3019
     clear hK K hS3019
     try simp only [Act.put, zqa, zqb, zqc]
     refine wpAnyH_take (i := 9) (oi := { dst := some 18, op := Op.convert 32 3 (Operand.tmp 17), type := 3, pos := _, after := _, guard := none }) (v := ?tkv3020) rfl (by kernel_rfl) (by kernel_rfl) (by kernel_rfl) (fun _ _ _ h => h) (Or.inl ⟨by rfl, ?tky3020⟩) hH3019 ?tkr3020
     case tky3020 => (intro w' hSw; have z0 := HC.out _ hSw; clear hSw; go_simp; try with_reducible rfl)
     try simp only [Act.put, zqa, zqb, zqc]
     refine wpAnyH_ready (rs := [20, 22]) (by kernel_rfl) (by simp) ?_
     refine AllReadyH.cons (o := { dst := some 29, op := Op.call { callee := Callee.value (Operand.func 27), args := #[Operand.tmp 28], argTypes := #[22] }, type := 22, pos := _, after := _, guard := none }) rfl (fun K hK => ?_) (AllReadyH.cons (o := { dst := some 4, op := Op.alloc 37, type := 0, pos := _, after := _, guard := none }) rfl (fun K hK => ?_) AllReadyH.nil)
     ·go_simp
      refine (clone_any w0.heap.size 32 _ _ (l.drop 12) wd3000 (HQ4.out wd3000 (hH3019)) (by omega) (hH3019).size).mono ?_
      rintro e' wn3021 ⟨Ak3021, nk3021, ck3021, rfl, hn3021, ho3021, hb3021⟩
      have hn23021 := hn3021.out
      rw [HD12.out] at hn23021
      subst hn23021
      have RK3021_ : Hid (RowP wn3021 (fun b => w.heap.size < b) Ak3021 32 (bv (l.drop 12))) := Lib.hid (own_rowP ho3021 (Nat.lt_of_lt_of_le LW.out (hH3019).size))
      clear ho3021 hn3021
      go_simp
      have hS3021 : Below (w0.heap.size) w0 wn3021 := (hH3019).trans (hb3021.mono (hH3019).size)
      refine hK.out _ _ hS3021 (fun hH3021 => ?_)
      have hH3021 : Below (w0.heap.size) w0 wn3021 := hH3021
      clear hK K hS3021
      try simp only [Act.put, zqa, zqb, zqc]
      refine wpAnyH_take (i := 21) (oi := { dst := some 30, op := Op.build 37 #[(0, Operand.tmp 11), (1, Operand.tmp 14), (2, Operand.tmp 18), (3, Operand.tmp 22), (4, Operand.tmp 26), (5, Operand.tmp 29)], type := 37, pos := _, after := _, guard := none }) (v := ?tkv3022) rfl (by kernel_rfl) (by kernel_rfl) (by kernel_rfl) (fun _ _ _ h => h) (Or.inl ⟨by rfl, ?tky3022⟩) hH3021 ?tkr3022
      case tky3022 => (intro w' hSw; clear hSw; go_simp; try with_reducible rfl)
      try simp only [Act.put, zqa, zqb, zqc]
      refine wpAnyH_ready (rs := [22]) (by kernel_rfl) (by simp) ?_
      refine AllReadyH.cons (o := { dst := some 4, op := Op.alloc 37, type := 0, pos := _, after := _, guard := none }) rfl (fun K hK => ?_) AllReadyH.nil
      go_simp
      have hb3023 : Below wn3021.heap.size wn3021 (wn3021.alloc (.cells #[.int .u32 0, .int .u32 0, .int .i64 0, .int .i64 0, .int .i64 0, .slice none 0 0] 37)) := (Below.refl _ _).alloc (Nat.le_refl _) _
      have BX3023 : Hid ((wn3021.alloc (.cells #[.int .u32 0, .int .u32 0, .int .i64 0, .int .i64 0, .int .i64 0, .slice none 0 0] 37)).heap[wn3021.heap.size]? = some (.cells #[.int .u32 0, .int .u32 0, .int .i64 0, .int .i64 0, .int .i64 0, .slice none 0 0] 37 (0, 0))) := Lib.hid (heap_alloc_new _ _)
      have LX3023 : Hid (wn3021.heap.size < (wn3021.alloc (.cells #[.int .u32 0, .int .u32 0, .int .i64 0, .int .i64 0, .int .i64 0, .slice none 0 0] 37)).heap.size) := Lib.hid (by simp)
      have GE3023 : Hid (w0.heap.size ≤ wn3021.heap.size) := Lib.hid (hH3021).size
      have RQ3023_ := Lib.hid (RK3021_.out.imp (P' := fun b => w.heap.size < b ∧ b ≠ wn3021.heap.size) (fun b hb hp => ⟨hp, Nat.ne_of_lt hb⟩))
      generalize (wn3021.alloc (.cells #[.int .u32 0, .int .u32 0, .int .i64 0, .int .i64 0, .int .i64 0, .slice none 0 0] 37)) = wn3023 at *
      have RQ3023_3023 := Lib.hid (RQ3023_.out.below hb3023)
      have hS3023 : Below (w0.heap.size) w0 wn3023 := (hH3021).trans (hb3023.mono (hH3021).size)
      refine hK.out _ _ hS3023 (fun hH3023 => ?_)
      have hH3023 : Below (w0.heap.size) w0 wn3023 := hH3023
      clear hK K hS3023
      try simp only [Act.put, zqa, zqb, zqc]
      refine wpAnyH_ready (rs := [23]) (by kernel_rfl) (by simp) ?_
      refine AllReadyH.cons (o := { dst := none, op := Op.store 37 (Operand.tmp 4) (Operand.tmp 30), type := 0, pos := _, after := _, guard := none }) rfl (fun K hK => ?_) AllReadyH.nil
      rw [if_pos (by rfl)]
      rw [HW3.out, HW10.out, HW11.out]
      refine wp_store_row _ _ _ rfl wn3021.heap.size #[.int .u32 (CrcM.number (l.take 4) : Nat), .int .u32 (CrcM.number ((l.drop 4).take 4) : Nat), .int .i64 (CrcM.number ((l.drop 8).take 2) : Nat), .int .i64 (l[10].toNat : Int), .int .i64 (l[11].toNat : Int), .slice Ak3021 32 ck3021] rfl rfl _ _ BX3023.out (by kernel_rfl) (by rfl) (by simp [Value.oneCell']) ?_
      have hS3024 : Below (w0.heap.size) w0 (wn3023.setRow wn3021.heap.size #[.int .u32 (CrcM.number (l.take 4) : Nat), .int .u32 (CrcM.number ((l.drop 4).take 4) : Nat), .int .i64 (CrcM.number ((l.drop 8).take 2) : Nat), .int .i64 (l[10].toNat : Int), .int .i64 (l[11].toNat : Int), .slice Ak3021 32 ck3021]) := (below_setRow2 (hH3023) GE3023.out _)
      refine hK.out _ _ hS3024 (fun hH3024 => ?_)
      have hH3024 : Below (w0.heap.size) w0 (wn3023.setRow wn3021.heap.size #[.int .u32 (CrcM.number (l.take 4) : Nat), .int .u32 (CrcM.number ((l.drop 4).take 4) : Nat), .int .i64 (CrcM.number ((l.drop 8).take 2) : Nat), .int .i64 (l[10].toNat : Int), .int .i64 (l[11].toNat : Int), .slice Ak3021 32 ck3021]) := hH3024
      clear hK K hS3024
      refine wpAnyH_done (by kernel_rfl) ?_ _
      refine NoPanic.normal ?_
      have HBX := Lib.hid (setRow_heap _ _ _ #[.int .u32 (CrcM.number (l.take 4) : Nat), .int .u32 (CrcM.number ((l.drop 4).take 4) : Nat), .int .i64 (CrcM.number ((l.drop 8).take 2) : Nat), .int .i64 (l[10].toNat : Int), .int .i64 (l[11].toNat : Int), .slice Ak3021 32 ck3021] _ _ BX3023.out)
      have HRW := Lib.hid ((RQ3023_3023.out.keep (Nat.le_of_eq (setRow_size _ _ _).symm) fun b hb _ => setRow_other _ _ _ #[.int .u32 (CrcM.number (l.take 4) : Nat), .int .u32 (CrcM.number ((l.drop 4).take 4) : Nat), .int .i64 (CrcM.number ((l.drop 8).take 2) : Nat), .int .i64 (l[10].toNat : Int), .int .i64 (l[11].toNat : Int), .slice Ak3021 32 ck3021] hb.2).imp (P' := fun b => w.heap.size < b) fun b _ hb => hb.1)
      go_wp2_with fail
      go_meet
      exact ⟨_, _, _, rfl, HBX, HRW, Lib.hid (hH3024)⟩
     ·go_simp
      have hb3025 : Below wd3000.heap.size wd3000 (wd3000.alloc (.cells #[.int .u32 0, .int .u32 0, .int .i64 0, .int .i64 0, .int .i64 0, .slice none 0 0] 37)) := (Below.refl _ _).alloc (Nat.le_refl _) _
      have BX3025 : Hid ((wd3000.alloc (.cells #[.int .u32 0, .int .u32 0, .int .i64 0, .int .i64 0, .int .i64 0, .slice none 0 0] 37)).heap[wd3000.heap.size]? = some (.cells #[.int .u32 0, .int .u32 0, .int .i64 0, .int .i64 0, .int .i64 0, .slice none 0 0] 37 (0, 0))) := Lib.hid (heap_alloc_new _ _)
      have LX3025 : Hid (wd3000.heap.size < (wd3000.alloc (.cells #[.int .u32 0, .int .u32 0, .int .i64 0, .int .i64 0, .int .i64 0, .slice none 0 0] 37)).heap.size) := Lib.hid (by simp)
      have GE3025 : Hid (w0.heap.size ≤ wd3000.heap.size) := Lib.hid (hH3019).size
      generalize (wd3000.alloc (.cells #[.int .u32 0, .int .u32 0, .int .i64 0, .int .i64 0, .int .i64 0, .slice none 0 0] 37)) = wn3025 at *
      have hS3025 : Below (w0.heap.size) w0 wn3025 := (hH3019).trans (hb3025.mono (hH3019).size)
      refine hK.out _ _ hS3025 (fun hH3025 => ?_)
      have hH3025 : Below (w0.heap.size) w0 wn3025 := hH3025
      clear hK K hS3025
      try simp only [Act.put, zqa, zqb, zqc]
      refine wpAnyH_ready (rs := [20]) (by kernel_rfl) (by simp) ?_
      refine AllReadyH.cons (o := { dst := some 29, op := Op.call { callee := Callee.value (Operand.func 27), args := #[Operand.tmp 28], argTypes := #[22] }, type := 22, pos := _, after := _, guard := none }) rfl (fun K hK => ?_) AllReadyH.nil
      go_simp
      refine (clone_any w0.heap.size 32 _ _ (l.drop 12) wn3025 (HQ4.out wn3025 (hH3025)) (by omega) (hH3025).size).mono ?_
      rintro e' wn3026 ⟨Ak3026, nk3026, ck3026, rfl, hn3026, ho3026, hb3026⟩
      have hn23026 := hn3026.out
      rw [HD12.out] at hn23026
      subst hn23026
      have RK3026_ : Hid (RowP wn3026 (fun b => w.heap.size < b ∧ b ≠ wd3000.heap.size) Ak3026 32 (bv (l.drop 12))) := Lib.hid (own_rowQ ho3026 LX3025.out (Nat.lt_of_lt_of_le LW.out (hH3025).size))
      clear ho3026 hn3026
      go_simp
      have BX3025_3026 := Lib.hid ((hb3026.block wd3000.heap.size LX3025.out).trans BX3025.out)
      have LX3025_3026 := Lib.hid (Nat.lt_of_lt_of_le LX3025.out hb3026.size)
      have hS3026 : Below (w0.heap.size) w0 wn3026 := (hH3025).trans (hb3026.mono (hH3025).size)
      refine hK.out _ _ hS3026 (fun hH3026 => ?_)
      have hH3026 : Below (w0.heap.size) w0 wn3026 := hH3026
      clear hK K hS3026
      try simp only [Act.put, zqa, zqb, zqc]
      refine wpAnyH_take (i := 21) (oi := { dst := some 30, op := Op.build 37 #[(0, Operand.tmp 11), (1, Operand.tmp 14), (2, Operand.tmp 18), (3, Operand.tmp 22), (4, Operand.tmp 26), (5, Operand.tmp 29)], type := 37, pos := _, after := _, guard := none }) (v := ?tkv3027) rfl (by kernel_rfl) (by kernel_rfl) (by kernel_rfl) (fun _ _ _ h => h) (Or.inl ⟨by rfl, ?tky3027⟩) hH3026 ?tkr3027
      case tky3027 => (intro w' hSw; clear hSw; go_simp; try with_reducible rfl)
      try simp only [Act.put, zqa, zqb, zqc]
      refine wpAnyH_ready (rs := [23]) (by kernel_rfl) (by simp) ?_
      refine AllReadyH.cons (o := { dst := none, op := Op.store 37 (Operand.tmp 4) (Operand.tmp 30), type := 0, pos := _, after := _, guard := none }) rfl (fun K hK => ?_) AllReadyH.nil
      rw [if_pos (by rfl)]
      rw [HW3.out, HW10.out, HW11.out]
      refine wp_store_row _ _ _ rfl wd3000.heap.size #[.int .u32 (CrcM.number (l.take 4) : Nat), .int .u32 (CrcM.number ((l.drop 4).take 4) : Nat), .int .i64 (CrcM.number ((l.drop 8).take 2) : Nat), .int .i64 (l[10].toNat : Int), .int .i64 (l[11].toNat : Int), .slice Ak3026 32 ck3026] rfl rfl _ _ BX3025_3026.out (by kernel_rfl) (by rfl) (by simp [Value.oneCell']) ?_
      have hS3028 : Below (w0.heap.size) w0 (wn3026.setRow wd3000.heap.size #[.int .u32 (CrcM.number (l.take 4) : Nat), .int .u32 (CrcM.number ((l.drop 4).take 4) : Nat), .int .i64 (CrcM.number ((l.drop 8).take 2) : Nat), .int .i64 (l[10].toNat : Int), .int .i64 (l[11].toNat : Int), .slice Ak3026 32 ck3026]) := (below_setRow2 (hH3026) GE3025.out _)
      refine hK.out _ _ hS3028 (fun hH3028 => ?_)
      have hH3028 : Below (w0.heap.size) w0 (wn3026.setRow wd3000.heap.size #[.int .u32 (CrcM.number (l.take 4) : Nat), .int .u32 (CrcM.number ((l.drop 4).take 4) : Nat), .int .i64 (CrcM.number ((l.drop 8).take 2) : Nat), .int .i64 (l[10].toNat : Int), .int .i64 (l[11].toNat : Int), .slice Ak3026 32 ck3026]) := hH3028
      clear hK K hS3028
      refine wpAnyH_done (by kernel_rfl) ?_ _
      refine NoPanic.normal ?_
      have HBX := Lib.hid (setRow_heap _ _ _ #[.int .u32 (CrcM.number (l.take 4) : Nat), .int .u32 (CrcM.number ((l.drop 4).take 4) : Nat), .int .i64 (CrcM.number ((l.drop 8).take 2) : Nat), .int .i64 (l[10].toNat : Int), .int .i64 (l[11].toNat : Int), .slice Ak3026 32 ck3026] _ _ BX3025_3026.out)
      have HRW := Lib.hid ((RK3026_.out.keep (Nat.le_of_eq (setRow_size _ _ _).symm) fun b hb _ => setRow_other _ _ _ #[.int .u32 (CrcM.number (l.take 4) : Nat), .int .u32 (CrcM.number ((l.drop 4).take 4) : Nat), .int .i64 (CrcM.number ((l.drop 8).take 2) : Nat), .int .i64 (l[10].toNat : Int), .int .i64 (l[11].toNat : Int), .slice Ak3026 32 ck3026] hb.2).imp (P' := fun b => w.heap.size < b) fun b _ hb => hb.1)
      go_wp2_with fail
      go_meet
      exact ⟨_, _, _, rfl, HBX, HRW, Lib.hid (hH3028)⟩
    ·go_simp
     have hb3029 : Below wd3000.heap.size wd3000 (wd3000.alloc (.cells #[.int .u32 0, .int .u32 0, .int .i64 0, .int .i64 0, .int .i64 0, .slice none 0 0] 37)) := (Below.refl _ _).alloc (Nat.le_refl _) _
     have BX3029 : Hid ((wd3000.alloc (.cells #[.int .u32 0, .int .u32 0, .int .i64 0, .int .i64 0, .int .i64 0, .slice none 0 0] 37)).heap[wd3000.heap.size]? = some (.cells #[.int .u32 0, .int .u32 0, .int .i64 0, .int .i64 0, .int .i64 0, .slice none 0 0] 37 (0, 0))) := Lib.hid (heap_alloc_new _ _)
     have LX3029 : Hid (wd3000.heap.size < (wd3000.alloc (.cells #[.int .u32 0, .int .u32 0, .int .i64 0, .int .i64 0, .int .i64 0, .slice none 0 0] 37)).heap.size) := Lib.hid (by simp)
     have GE3029 : Hid (w0.heap.size ≤ wd3000.heap.size) := Lib.hid (hH3018).size
     generalize (wd3000.alloc (.cells #[.int .u32 0, .int .u32 0, .int .i64 0, .int .i64 0, .int .i64 0, .slice none 0 0] 37)) = wn3029 at *
     have hS3029 : Below (w0.heap.size) w0 wn3029 := (hH3018).trans (hb3029.mono (hH3018).size)
     refine hK.out _ _ hS3029 (fun hH3029 => ?_)
     have hH3029 : Below (w0.heap.size) w0 wn3029 := hH3029
     clear hK K hS3029
     try simp only [Act.put, zqa, zqb, zqc]
     refine wpAnyH_ready (rs := [8]) (by kernel_rfl) (by simp) ?_
     refine AllReadyH.cons (o := { dst := some 17, op := Op.call { callee := Callee.value (Operand.func 98), args := #[Operand.tmp 16], argTypes := #[22] }, type := 32, pos := _, after := _, guard := none }) rfl (fun K hK => ?_) AllReadyH.nil
     go_simp
     refine (manNum_any w0.heap.size 2 _ _ _ wn3029 (HQ3.out wn3029 (hH3029)) (by omega)).mono ?_
     rintro e' _ ⟨rfl, rfl⟩
     go_simp
     have hS3030 : Below (w0.heap.size) w0 wn3029 := hH3029
     refine hK.out _ _ hS3030 (fun hH3030 => ?_)
     have hH3030 : Below (w0.heap.size) w0 wn3029 := hH3030
     clear hK K hS3030
     try simp only [Act.put, zqa, zqb, zqc]
     refine wpAnyH_take (i := 9) (oi := { dst := some 18, op := Op.convert 32 3 (Operand.tmp 17), type := 3, pos := _, after := _, guard := none }) (v := ?tkv3031) rfl (by kernel_rfl) (by kernel_rfl) (by kernel_rfl) (fun _ _ _ h => h) (Or.inl ⟨by rfl, ?tky3031⟩) hH3030 ?tkr3031
     case tky3031 => (intro w' hSw; have z0 := HC.out _ hSw; clear hSw; go_simp; try with_reducible rfl)
     try simp only [Act.put, zqa, zqb, zqc]
     refine wpAnyH_ready (rs := [20]) (by kernel_rfl) (by simp) ?_
     refine AllReadyH.cons (o := { dst := some 29, op := Op.call { callee := Callee.value (Operand.func 27), args := #[Operand.tmp 28], argTypes := #[22] }, type := 22, pos := _, after := _, guard := none }) rfl (fun K hK => ?_) AllReadyH.nil
     go_simp
     refine (clone_any w0.heap.size 32 _ _ (l.drop 12) wn3029 (HQ4.out wn3029 (hH3030)) (by omega) (hH3030).size).mono ?_
     rintro e' wn3032 ⟨Ak3032, nk3032, ck3032, rfl, hn3032, ho3032, hb3032⟩
     have hn23032 := hn3032.out
     rw [HD12.out] at hn23032
     subst hn23032
     have RK3032_ : Hid (RowP wn3032 (fun b => w.heap.size < b ∧ b ≠ wd3000.heap.size) Ak3032 32 (bv (l.drop 12))) := Lib.hid (own_rowQ ho3032 LX3029.out (Nat.lt_of_lt_of_le LW.out (hH3030).size))
     clear ho3032 hn3032
     go_simp
     have BX3029_3032 := Lib.hid ((hb3032.block wd3000.heap.size LX3029.out).trans BX3029.out)
     have LX3029_3032 := Lib.hid (Nat.lt_of_lt_of_le LX3029.out hb3032.size)
     have hS3032 : Below (w0.heap.size) w0 wn3032 := (hH3030).trans (hb3032.mono (hH3030).size)
     refine hK.out _ _ hS3032 (fun hH3032 => ?_)
     have hH3032 : Below (w0.heap.size) w0 wn3032 := hH3032
     clear hK K hS3032
     try simp only [Act.put, zqa, zqb, zqc]
     refine wpAnyH_take (i := 21) (oi := { dst := some 30, op := Op.build 37 #[(0, Operand.tmp 11), (1, Operand.tmp 14), (2, Operand.tmp 18), (3, Operand.tmp 22), (4, Operand.tmp 26), (5, Operand.tmp 29)], type := 37, pos := _, after := _, guard := none }) (v := ?tkv3033) rfl (by kernel_rfl) (by kernel_rfl) (by kernel_rfl) (fun _ _ _ h => h) (Or.inl ⟨by rfl, ?tky3033⟩) hH3032 ?tkr3033
     case tky3033 => (intro w' hSw; clear hSw; go_simp; try with_reducible rfl)
     try simp only [Act.put, zqa, zqb, zqc]
     refine wpAnyH_ready (rs := [23]) (by kernel_rfl) (by simp) ?_
     refine AllReadyH.cons (o := { dst := none, op := Op.store 37 (Operand.tmp 4) (Operand.tmp 30), type := 0, pos := _, after := _, guard := none }) rfl (fun K hK => ?_) AllReadyH.nil
     rw [if_pos (by rfl)]
     rw [HW3.out, HW10.out, HW11.out]
     refine wp_store_row _ _ _ rfl wd3000.heap.size #[.int .u32 (CrcM.number (l.take 4) : Nat), .int .u32 (CrcM.number ((l.drop 4).take 4) : Nat), .int .i64 (CrcM.number ((l.drop 8).take 2) : Nat), .int .i64 (l[10].toNat : Int), .int .i64 (l[11].toNat : Int), .slice Ak3032 32 ck3032] rfl rfl _ _ BX3029_3032.out (by kernel_rfl) (by rfl) (by simp [Value.oneCell']) ?_
     have hS3034 : Below (w0.heap.size) w0 (wn3032.setRow wd3000.heap.size #[.int .u32 (CrcM.number (l.take 4) : Nat), .int .u32 (CrcM.number ((l.drop 4).take 4) : Nat), .int .i64 (CrcM.number ((l.drop 8).take 2) : Nat), .int .i64 (l[10].toNat : Int), .int .i64 (l[11].toNat : Int), .slice Ak3032 32 ck3032]) := (below_setRow2 (hH3032) GE3029.out _)
     refine hK.out _ _ hS3034 (fun hH3034 => ?_)
     have hH3034 : Below (w0.heap.size) w0 (wn3032.setRow wd3000.heap.size #[.int .u32 (CrcM.number (l.take 4) : Nat), .int .u32 (CrcM.number ((l.drop 4).take 4) : Nat), .int .i64 (CrcM.number ((l.drop 8).take 2) : Nat), .int .i64 (l[10].toNat : Int), .int .i64 (l[11].toNat : Int), .slice Ak3032 32 ck3032]) := hH3034
     clear hK K hS3034
     refine wpAnyH_done (by kernel_rfl) ?_ _
     refine NoPanic.normal ?_
     have HBX := Lib.hid (setRow_heap _ _ _ #[.int .u32 (CrcM.number (l.take 4) : Nat), .int .u32 (CrcM.number ((l.drop 4).take 4) : Nat), .int .i64 (CrcM.number ((l.drop 8).take 2) : Nat), .int .i64 (l[10].toNat : Int), .int .i64 (l[11].toNat : Int), .slice Ak3032 32 ck3032] _ _ BX3029_3032.out)
     have HRW := Lib.hid ((RK3032_.out.keep (Nat.le_of_eq (setRow_size _ _ _).symm) fun b hb _ => setRow_other _ _ _ #[.int .u32 (CrcM.number (l.take 4) : Nat), .int .u32 (CrcM.number ((l.drop 4).take 4) : Nat), .int .i64 (CrcM.number ((l.drop 8).take 2) : Nat), .int .i64 (l[10].toNat : Int), .int .i64 (l[11].toNat : Int), .slice Ak3032 32 ck3032] hb.2).imp (P' := fun b => w.heap.size < b) fun b _ hb => hb.1)
     go_wp2_with fail
     go_meet
     exact ⟨_, _, _, rfl, HBX, HRW, Lib.hid (hH3034)⟩
   ·go_simp
    have hb3035 : Below wd3000.heap.size wd3000 (wd3000.alloc (.cells #[.int .u32 0, .int .u32 0, .int .i64 0, .int .i64 0, .int .i64 0, .slice none 0 0] 37)) := (Below.refl _ _).alloc (Nat.le_refl _) _
    have BX3035 : Hid ((wd3000.alloc (.cells #[.int .u32 0, .int .u32 0, .int .i64 0, .int .i64 0, .int .i64 0, .slice none 0 0] 37)).heap[wd3000.heap.size]? = some (.cells #[.int .u32 0, .int .u32 0, .int .i64 0, .int .i64 0, .int .i64 0, .slice none 0 0] 37 (0, 0))) := Lib.hid (heap_alloc_new _ _)
    have LX3035 : Hid (wd3000.heap.size < (wd3000.alloc (.cells #[.int .u32 0, .int .u32 0, .int .i64 0, .int .i64 0, .int .i64 0, .slice none 0 0] 37)).heap.size) := Lib.hid (by simp)
    have GE3035 : Hid (w0.heap.size ≤ wd3000.heap.size) := Lib.hid (hH3017).size
    generalize (wd3000.alloc (.cells #[.int .u32 0, .int .u32 0, .int .i64 0, .int .i64 0, .int .i64 0, .slice none 0 0] 37)) = wn3035 at *
    have hS3035 : Below (w0.heap.size) w0 wn3035 := (hH3017).trans (hb3035.mono (hH3017).size)
    refine hK.out _ _ hS3035 (fun hH3035 => ?_)
    have hH3035 : Below (w0.heap.size) w0 wn3035 := hH3035
    clear hK K hS3035
    try simp only [Act.put, zqa, zqb, zqc]
    refine wpAnyH_ready (rs := [5]) (by kernel_rfl) (by simp) ?_
    refine AllReadyH.cons (o := { dst := some 14, op := Op.call { callee := Callee.value (Operand.func 98), args := #[Operand.tmp 13], argTypes := #[22] }, type := 32, pos := _, after := _, guard := none }) rfl (fun K hK => ?_) AllReadyH.nil
    go_simp
    refine (manNum_any w0.heap.size 4 _ _ _ wn3035 (HQ2.out wn3035 (hH3035)) (by omega)).mono ?_
    rintro e' _ ⟨rfl, rfl⟩
    go_simp
    have hS3036 : Below (w0.heap.size) w0 wn3035 := hH3035
    refine hK.out _ _ hS3036 (fun hH3036 => ?_)
    have hH3036 : Below (w0.heap.size) w0 wn3035 := hH3036
    clear hK K hS3036
    try simp only [Act.put, zqa, zqb, zqc]
    refine wpAnyH_ready (rs := [8]) (by kernel_rfl) (by simp) ?_
    refine AllReadyH.cons (o := { dst := some 17, op := Op.call { callee := Callee.value (Operand.func 98), args := #[Operand.tmp 16], argTypes := #[22] }, type := 32, pos := _, after := _, guard := none }) rfl (fun K hK => ?_) AllReadyH.nil
    go_simp
    refine (manNum_any w0.heap.size 2 _ _ _ wn3035 (HQ3.out wn3035 (hH3036)) (by omega)).mono ?_
    rintro e' _ ⟨rfl, rfl⟩
    go_simp
    have hS3037 : Below (w0.heap.size) w0 wn3035 := hH3036
    refine hK.out _ _ hS3037 (fun hH3037 => ?_)
    have hH3037 : Below (w0.heap.size) w0 wn3035 := hH3037
    clear hK K hS3037
    try simp only [Act.put, zqa, zqb, zqc]
    refine wpAnyH_take (i := 9) (oi := { dst := some 18, op := Op.convert 32 3 (Operand.tmp 17), type := 3, pos := _, after := _, guard := none }) (v := ?tkv3038) rfl (by kernel_rfl) (by kernel_rfl) (by kernel_rfl) (fun _ _ _ h => h) (Or.inl ⟨by rfl, ?tky3038⟩) hH3037 ?tkr3038
    case tky3038 => (intro w' hSw; have z0 := HC.out _ hSw; clear hSw; go_simp; try with_reducible rfl)
    try simp only [Act.put, zqa, zqb, zqc]
    refine wpAnyH_ready (rs := [20]) (by kernel_rfl) (by simp) ?_
    refine AllReadyH.cons (o := { dst := some 29, op := Op.call { callee := Callee.value (Operand.func 27), args := #[Operand.tmp 28], argTypes := #[22] }, type := 22, pos := _, after := _, guard := none }) rfl (fun K hK => ?_) AllReadyH.nil
    go_simp
    refine (clone_any w0.heap.size 32 _ _ (l.drop 12) wn3035 (HQ4.out wn3035 (hH3037)) (by omega) (hH3037).size).mono ?_
    rintro e' wn3039 ⟨Ak3039, nk3039, ck3039, rfl, hn3039, ho3039, hb3039⟩
    have hn23039 := hn3039.out
    rw [HD12.out] at hn23039
    subst hn23039
    have RK3039_ : Hid (RowP wn3039 (fun b => w.heap.size < b ∧ b ≠ wd3000.heap.size) Ak3039 32 (bv (l.drop 12))) := Lib.hid (own_rowQ ho3039 LX3035.out (Nat.lt_of_lt_of_le LW.out (hH3037).size))
    clear ho3039 hn3039
    go_simp
    have BX3035_3039 := Lib.hid ((hb3039.block wd3000.heap.size LX3035.out).trans BX3035.out)
    have LX3035_3039 := Lib.hid (Nat.lt_of_lt_of_le LX3035.out hb3039.size)
    have hS3039 : Below (w0.heap.size) w0 wn3039 := (hH3037).trans (hb3039.mono (hH3037).size)
    refine hK.out _ _ hS3039 (fun hH3039 => ?_)
    have hH3039 : Below (w0.heap.size) w0 wn3039 := hH3039
    clear hK K hS3039
    try simp only [Act.put, zqa, zqb, zqc]
    refine wpAnyH_take (i := 21) (oi := { dst := some 30, op := Op.build 37 #[(0, Operand.tmp 11), (1, Operand.tmp 14), (2, Operand.tmp 18), (3, Operand.tmp 22), (4, Operand.tmp 26), (5, Operand.tmp 29)], type := 37, pos := _, after := _, guard := none }) (v := ?tkv3040) rfl (by kernel_rfl) (by kernel_rfl) (by kernel_rfl) (fun _ _ _ h => h) (Or.inl ⟨by rfl, ?tky3040⟩) hH3039 ?tkr3040
    case tky3040 => (intro w' hSw; clear hSw; go_simp; try with_reducible rfl)
    try simp only [Act.put, zqa, zqb, zqc]
    refine wpAnyH_ready (rs := [23]) (by kernel_rfl) (by simp) ?_
    refine AllReadyH.cons (o := { dst := none, op := Op.store 37 (Operand.tmp 4) (Operand.tmp 30), type := 0, pos := _, after := _, guard := none }) rfl (fun K hK => ?_) AllReadyH.nil
    rw [if_pos (by rfl)]
    rw [HW3.out, HW10.out, HW11.out]
    refine wp_store_row _ _ _ rfl wd3000.heap.size #[.int .u32 (CrcM.number (l.take 4) : Nat), .int .u32 (CrcM.number ((l.drop 4).take 4) : Nat), .int .i64 (CrcM.number ((l.drop 8).take 2) : Nat), .int .i64 (l[10].toNat : Int), .int .i64 (l[11].toNat : Int), .slice Ak3039 32 ck3039] rfl rfl _ _ BX3035_3039.out (by kernel_rfl) (by rfl) (by simp [Value.oneCell']) ?_
    have hS3041 : Below (w0.heap.size) w0 (wn3039.setRow wd3000.heap.size #[.int .u32 (CrcM.number (l.take 4) : Nat), .int .u32 (CrcM.number ((l.drop 4).take 4) : Nat), .int .i64 (CrcM.number ((l.drop 8).take 2) : Nat), .int .i64 (l[10].toNat : Int), .int .i64 (l[11].toNat : Int), .slice Ak3039 32 ck3039]) := (below_setRow2 (hH3039) GE3035.out _)
    refine hK.out _ _ hS3041 (fun hH3041 => ?_)
    have hH3041 : Below (w0.heap.size) w0 (wn3039.setRow wd3000.heap.size #[.int .u32 (CrcM.number (l.take 4) : Nat), .int .u32 (CrcM.number ((l.drop 4).take 4) : Nat), .int .i64 (CrcM.number ((l.drop 8).take 2) : Nat), .int .i64 (l[10].toNat : Int), .int .i64 (l[11].toNat : Int), .slice Ak3039 32 ck3039]) := hH3041
    clear hK K hS3041
    refine wpAnyH_done (by kernel_rfl) ?_ _
    refine NoPanic.normal ?_
    have HBX := Lib.hid (setRow_heap _ _ _ #[.int .u32 (CrcM.number (l.take 4) : Nat), .int .u32 (CrcM.number ((l.drop 4).take 4) : Nat), .int .i64 (CrcM.number ((l.drop 8).take 2) : Nat), .int .i64 (l[10].toNat : Int), .int .i64 (l[11].toNat : Int), .slice Ak3039 32 ck3039] _ _ BX3035_3039.out)
    have HRW := Lib.hid ((RK3039_.out.keep (Nat.le_of_eq (setRow_size _ _ _).symm) fun b hb _ => setRow_other _ _ _ #[.int .u32 (CrcM.number (l.take 4) : Nat), .int .u32 (CrcM.number ((l.drop 4).take 4) : Nat), .int .i64 (CrcM.number ((l.drop 8).take 2) : Nat), .int .i64 (l[10].toNat : Int), .int .i64 (l[11].toNat : Int), .slice Ak3039 32 ck3039] hb.2).imp (P' := fun b => w.heap.size < b) fun b _ hb => hb.1)
    go_wp2_with fail
    go_meet
    exact ⟨_, _, _, rfl, HBX, HRW, Lib.hid (hH3041)⟩
  ·go_simp
   have hb3042 : Below wd3000.heap.size wd3000 (wd3000.alloc (.cells #[.int .u32 0, .int .u32 0, .int .i64 0, .int .i64 0, .int .i64 0, .slice none 0 0] 37)) := (Below.refl _ _).alloc (Nat.le_refl _) _
   have BX3042 : Hid ((wd3000.alloc (.cells #[.int .u32 0, .int .u32 0, .int .i64 0, .int .i64 0, .int .i64 0, .slice none 0 0] 37)).heap[wd3000.heap.size]? = some (.cells #[.int .u32 0, .int .u32 0, .int .i64 0, .int .i64 0, .int .i64 0, .slice none 0 0] 37 (0, 0))) := Lib.hid (heap_alloc_new _ _)
   have LX3042 : Hid (wd3000.heap.size < (wd3000.alloc (.cells #[.int .u32 0, .int .u32 0, .int .i64 0, .int .i64 0, .int .i64 0, .slice none 0 0] 37)).heap.size) := Lib.hid (by simp)
   have GE3042 : Hid (w0.heap.size ≤ wd3000.heap.size) := Lib.hid (hH0).size
   generalize (wd3000.alloc (.cells #[.int .u32 0, .int .u32 0, .int .i64 0, .int .i64 0, .int .i64 0, .slice none 0 0] 37)) = wn3042 at *
   have hS3042 : Below (w0.heap.size) w0 wn3042 := (hH0).trans (hb3042.mono (hH0).size)
   refine hK.out _ _ hS3042 (fun hH3042 => ?_)
   have hH3042 : Below (w0.heap.size) w0 wn3042 := hH3042
   clear hK K hS3042
   try simp only [Act.put, zqa, zqb, zqc]
   refine wpAnyH_ready (rs := [2]) (by kernel_rfl) (by simp) ?_
   refine AllReadyH.cons (o := { dst := some 11, op := Op.call { callee := Callee.value (Operand.func 98), args := #[Operand.tmp 10], argTypes := #[22] }, type := 32, pos := _, after := _, guard := none }) rfl (fun K hK => ?_) AllReadyH.nil
   go_simp
   refine (manNum_any w0.heap.size 4 _ _ _ wn3042 (HQ1.out wn3042 (hH3042)) (by omega)).mono ?_
   rintro e' _ ⟨rfl, rfl⟩
   go_simp
   have hS3043 : Below (w0.heap.size) w0 wn3042 := hH3042
   refine hK.out _ _ hS3043 (fun hH3043 => ?_)
   have hH3043 : Below (w0.heap.size) w0 wn3042 := hH3043
   clear hK K hS3043
   try simp only [Act.put, zqa, zqb, zqc]
   refine wpAnyH_ready (rs := [5]) (by kernel_rfl) (by simp) ?_
   refine AllReadyH.cons (o := { dst := some 14, op := Op.call { callee := Callee.value (Operand.func 98), args := #[Operand.tmp 13], argTypes := #[22] }, type := 32, pos := _, after := _, guard := none }) rfl (fun K hK => ?_) AllReadyH.nil
   go_simp
   refine (manNum_any w0.heap.size 4 _ _ _ wn3042 (HQ2.out wn3042 (hH3043)) (by omega)).mono ?_
   rintro e' _ ⟨rfl, rfl⟩
   go_simp
   have hS3044 : Below (w0.heap.size) w0 wn3042 := hH3043
   refine hK.out _ _ hS3044 (fun hH3044 => ?_)
   have hH3044 : Below (w0.heap.size) w0 wn3042 := hH3044
   clear hK K hS3044
   try simp only [Act.put, zqa, zqb, zqc]
   refine wpAnyH_ready (rs := [8]) (by kernel_rfl) (by simp) ?_
   refine AllReadyH.cons (o := { dst := some 17, op := Op.call { callee := Callee.value (Operand.func 98), args := #[Operand.tmp 16], argTypes := #[22] }, type := 32, pos := _, after := _, guard := none }) rfl (fun K hK => ?_) AllReadyH.nil
   go_simp
   refine (manNum_any w0.heap.size 2 _ _ _ wn3042 (HQ3.out wn3042 (hH3044)) (by omega)).mono ?_
   rintro e' _ ⟨rfl, rfl⟩
   go_simp
   have hS3045 : Below (w0.heap.size) w0 wn3042 := hH3044
   refine hK.out _ _ hS3045 (fun hH3045 => ?_)
   have hH3045 : Below (w0.heap.size) w0 wn3042 := hH3045
   clear hK K hS3045
   try simp only [Act.put, zqa, zqb, zqc]
   refine wpAnyH_take (i := 9) (oi := { dst := some 18, op := Op.convert 32 3 (Operand.tmp 17), type := 3, pos := _, after := _, guard := none }) (v := ?tkv3046) rfl (by kernel_rfl) (by kernel_rfl) (by kernel_rfl) (fun _ _ _ h => h) (Or.inl ⟨by rfl, ?tky3046⟩) hH3045 ?tkr3046
   case tky3046 => (intro w' hSw; have z0 := HC.out _ hSw; clear hSw; go_simp; try with_reducible rfl)
   try simp only [Act.put, zqa, zqb, zqc]
   refine wpAnyH_ready (rs := [20]) (by kernel_rfl) (by simp) ?_
   refine AllReadyH.cons (o := { dst := some 29, op := Op.call { callee := Callee.value (Operand.func 27), args := #[Operand.tmp 28], argTypes := #[22] }, type := 22, pos := _, after := _, guard := none }) rfl (fun K hK => ?_) AllReadyH.nil
   go_simp
   refine (clone_any w0.heap.size 32 _ _ (l.drop 12) wn3042 (HQ4.out wn3042 (hH3045)) (by omega) (hH3045).size).mono ?_
   rintro e' wn3047 ⟨Ak3047, nk3047, ck3047, rfl, hn3047, ho3047, hb3047⟩
   have hn23047 := hn3047.out
   rw [HD12.out] at hn23047
   subst hn23047
   have RK3047_ : Hid (RowP wn3047 (fun b => w.heap.size < b ∧ b ≠ wd3000.heap.size) Ak3047 32 (bv (l.drop 12))) := Lib.hid (own_rowQ ho3047 LX3042.out (Nat.lt_of_lt_of_le LW.out (hH3045).size))
   clear ho3047 hn3047
   go_simp
   have BX3042_3047 := Lib.hid ((hb3047.block wd3000.heap.size LX3042.out).trans BX3042.out)
   have LX3042_3047 := Lib.hid (Nat.lt_of_lt_of_le LX3042.out hb3047.size)
   have hS3047 : Below (w0.heap.size) w0 wn3047 := (hH3045).trans (hb3047.mono (hH3045).size)
   refine hK.out _ _ hS3047 (fun hH3047 => ?_)
   have hH3047 : Below (w0.heap.size) w0 wn3047 := hH3047
   clear hK K hS3047
   try simp only [Act.put, zqa, zqb, zqc]
   refine wpAnyH_take (i := 21) (oi := { dst := some 30, op := Op.build 37 #[(0, Operand.tmp 11), (1, Operand.tmp 14), (2, Operand.tmp 18), (3, Operand.tmp 22), (4, Operand.tmp 26), (5, Operand.tmp 29)], type := 37, pos := _, after := _, guard := none }) (v := ?tkv3048) rfl (by kernel_rfl) (by kernel_rfl) (by kernel_rfl) (fun _ _ _ h => h) (Or.inl ⟨by rfl, ?tky3048⟩) hH3047 ?tkr3048
   case tky3048 => (intro w' hSw; clear hSw; go_simp; try with_reducible rfl)
   try simp only [Act.put, zqa, zqb, zqc]
   refine wpAnyH_ready (rs := [23]) (by kernel_rfl) (by simp) ?_
   refine AllReadyH.cons (o := { dst := none, op := Op.store 37 (Operand.tmp 4) (Operand.tmp 30), type := 0, pos := _, after := _, guard := none }) rfl (fun K hK => ?_) AllReadyH.nil
   rw [if_pos (by rfl)]
   rw [HW3.out, HW10.out, HW11.out]
   refine wp_store_row _ _ _ rfl wd3000.heap.size #[.int .u32 (CrcM.number (l.take 4) : Nat), .int .u32 (CrcM.number ((l.drop 4).take 4) : Nat), .int .i64 (CrcM.number ((l.drop 8).take 2) : Nat), .int .i64 (l[10].toNat : Int), .int .i64 (l[11].toNat : Int), .slice Ak3047 32 ck3047] rfl rfl _ _ BX3042_3047.out (by kernel_rfl) (by rfl) (by simp [Value.oneCell']) ?_
   have hS3049 : Below (w0.heap.size) w0 (wn3047.setRow wd3000.heap.size #[.int .u32 (CrcM.number (l.take 4) : Nat), .int .u32 (CrcM.number ((l.drop 4).take 4) : Nat), .int .i64 (CrcM.number ((l.drop 8).take 2) : Nat), .int .i64 (l[10].toNat : Int), .int .i64 (l[11].toNat : Int), .slice Ak3047 32 ck3047]) := (below_setRow2 (hH3047) GE3042.out _)
   refine hK.out _ _ hS3049 (fun hH3049 => ?_)
   have hH3049 : Below (w0.heap.size) w0 (wn3047.setRow wd3000.heap.size #[.int .u32 (CrcM.number (l.take 4) : Nat), .int .u32 (CrcM.number ((l.drop 4).take 4) : Nat), .int .i64 (CrcM.number ((l.drop 8).take 2) : Nat), .int .i64 (l[10].toNat : Int), .int .i64 (l[11].toNat : Int), .slice Ak3047 32 ck3047]) := hH3049
   clear hK K hS3049
   refine wpAnyH_done (by kernel_rfl) ?_ _
   refine NoPanic.normal ?_
   have HBX := Lib.hid (setRow_heap _ _ _ #[.int .u32 (CrcM.number (l.take 4) : Nat), .int .u32 (CrcM.number ((l.drop 4).take 4) : Nat), .int .i64 (CrcM.number ((l.drop 8).take 2) : Nat), .int .i64 (l[10].toNat : Int), .int .i64 (l[11].toNat : Int), .slice Ak3047 32 ck3047] _ _ BX3042_3047.out)
   have HRW := Lib.hid ((RK3047_.out.keep (Nat.le_of_eq (setRow_size _ _ _).symm) fun b hb _ => setRow_other _ _ _ #[.int .u32 (CrcM.number (l.take 4) : Nat), .int .u32 (CrcM.number ((l.drop 4).take 4) : Nat), .int .i64 (CrcM.number ((l.drop 8).take 2) : Nat), .int .i64 (l[10].toNat : Int), .int .i64 (l[11].toNat : Int), .slice Ak3047 32 ck3047] hb.2).imp (P' := fun b => w.heap.size < b) fun b _ hb => hb.1)
   go_wp2_with fail
   go_meet
   exact ⟨_, _, _, rfl, HBX, HRW, Lib.hid (hH3049)⟩
 case rest =>
  obtain ⟨g, A, c', rfl, hbx, hrw, hbl⟩ := hcut
  have e10 : (l.getD 10 0).toNat = l[10].toNat := by simp [List.getD, i10]
  have e11 : (l.getD 11 0).toNat = l[11].toNat := by simp [List.getD, i11]
  have hm : manRead l = ⟨CrcM.number (l.take 4), CrcM.number ((l.drop 4).take 4), (CrcM.number ((l.drop 8).take 2) : Nat), (l[10].toNat : Int), (l[11].toNat : Int), l.drop 12⟩ := by unfold manRead; rw [e10, e11]
  have HM := Lib.hid hm
  have HB := Lib.hid (B0.out.trans (hbl.out.mono B0.out.size))
  have X1 := Lib.hid ((hbl.out.block w.heap.size LW.out).trans X0.out)
  obtain ⟨wD, rfl⟩ : ∃ x : World, x = wc := ⟨_, rfl⟩
  clear hm e10 e11 HQ1 HQ2 HQ3 HQ4 HC HW3 HW10 HW11 q4 q8 q10 q12 n4 n8 n12 m4 m8 m12 b10 b11 HR B0 hbl X0
  go_wp2_with ((with_reducible show wpList _ _ _ _ _ _); refine wpList_load_row (o := ⟨some 31, _, _, _, _, _⟩) rfl _ (.tmp 4) rfl g rfl _ _ _ _ hbx.out Tryz.underlying37 rfl (by kernel_rfl) ?_)
  refine (manMay_any _ _ _ _ _ A 32 c' wD).mono ?_
  rintro e w2 ⟨rfl, hb2⟩
  have hmay : manB (CrcM.number ((l.drop 8).take 2) : Nat) (l[10].toNat : Int) (l[11].toNat : Int) 32 = (manRead l).may := by rw [HM.out, LMan.may, HD12.out]
  rw [hmay]
  have X2 := Lib.hid ((hb2.block w.heap.size (Array.getElem?_eq_some_iff.1 X1.out).1).trans X1.out)
  have Y2 := Lib.hid ((hb2.block g (Array.getElem?_eq_some_iff.1 hbx.out).1).trans hbx.out)
  have R2 := Lib.hid (hrw.out.below hb2)
  have B2 := Lib.hid (HB.out.trans (hb2.mono HB.out.size))
  clear hb2 X1 hbx hrw HB hmay
  cases hy : (manRead l).may with
  | false =>
   have hE : readE l = 3 := by unfold readE; rw [if_neg (by rw [hy]; simp)]
   have hM : readM l = LMan.zero := by unfold readM; rw [if_neg (by rw [hy]; simp)]
   have HE := Lib.hid hE
   have HMM := Lib.hid hM
   clear hE hM hy HM
   go_wp2_with ((with_reducible show wpList _ _ _ _ _ _); refine wpList_store_row rfl _ (.tmp 2) (.tmp 34) rfl (w.heap.size) #[.int .u32 0, .int .u32 0, .int .i64 0, .int .i64 0, .int .i64 0, .slice none 0 0] rfl rfl _ _ X2.out (by kernel_rfl) (by rfl) (by simp [Value.oneCell']) ?_)
   have hrow : (w2.setRow w.heap.size #[.int .u32 0, .int .u32 0, .int .i64 0, .int .i64 0, .int .i64 0, .slice none 0 0]).heap[w.heap.size]? = some (.cells #[.int .u32 0, .int .u32 0, .int .i64 0, .int .i64 0, .int .i64 0, .slice none 0 0] 37 (0, 0)) := setRow_heap _ _ _ _ _ _ X2.out
   refine bodyPost_ret (results_cell_tmp_row rfl _ _ (w.heap.size) _ _ (0, 0) _ rfl hrow Tryz.underlying37 rfl (by kernel_rfl)) rfl ?_
   rw [HE.out, HMM.out]
   exact ⟨_, rfl, Lib.hid ⟨none, 0, rfl, .nil _ _ _⟩, Lib.hid (below_setRow2 B2.out (Nat.le_refl _) _)⟩
  | true =>
   have hE : readE l = 0 := by unfold readE; rw [if_pos ⟨HL.out, hy⟩]
   have hM : readM l = manRead l := by unfold readM; rw [if_pos ⟨HL.out, hy⟩]
   have HE := Lib.hid hE
   have HMM := Lib.hid hM
   clear hE hM hy
   go_wp2_with (first
    | ((with_reducible show wpList _ _ _ _ _ _); refine wpList_load_row (o := ⟨some 35, _, _, _, _, _⟩) rfl _ (.tmp 4) rfl g rfl _ _ _ _ Y2.out Tryz.underlying37 rfl (by kernel_rfl) ?_)
    | ((with_reducible show wpList _ _ _ _ _ _); refine wpList_store_row rfl _ (.tmp 2) (.tmp 35) rfl (w.heap.size) #[.int .u32 (CrcM.number (l.take 4) : Nat), .int .u32 (CrcM.number ((l.drop 4).take 4) : Nat), .int .i64 (CrcM.number ((l.drop 8).take 2) : Nat), .int .i64 (l[10].toNat : Int), .int .i64 (l[11].toNat : Int), .slice A 32 c'] rfl rfl _ _ X2.out (by kernel_rfl) (by rfl) (by simp [Value.oneCell']) ?_))
   have hrow : (w2.setRow w.heap.size #[.int .u32 (CrcM.number (l.take 4) : Nat), .int .u32 (CrcM.number ((l.drop 4).take 4) : Nat), .int .i64 (CrcM.number ((l.drop 8).take 2) : Nat), .int .i64 (l[10].toNat : Int), .int .i64 (l[11].toNat : Int), .slice A 32 c']).heap[w.heap.size]? = some (.cells #[.int .u32 (CrcM.number (l.take 4) : Nat), .int .u32 (CrcM.number ((l.drop 4).take 4) : Nat), .int .i64 (CrcM.number ((l.drop 8).take 2) : Nat), .int .i64 (l[10].toNat : Int), .int .i64 (l[11].toNat : Int), .slice A 32 c'] 37 (0, 0)) := setRow_heap _ _ _ _ _ _ X2.out
   refine bodyPost_ret (results_cell_tmp_row rfl _ _ (w.heap.size) _ _ (0, 0) _ rfl hrow Tryz.underlying37 rfl (by kernel_rfl)) rfl ?_
   rw [HE.out, HMM.out]
   refine ⟨_, rfl, Lib.hid ?_, Lib.hid (below_setRow2 B2.out (Nat.le_refl _) _)⟩
   rw [HM.out]
   refine ⟨A, c', by simp only [LMan.cells, HD12.out], ?_⟩
   show RowP _ _ A (l.drop 12).length (bv (l.drop 12))
   rw [HD12.out]
   exact (R2.out.keep (by simp) fun b hb _ => setRow_other _ _ _ _ (by omega)).imp fun b _ hb => Nat.le_of_lt hb
set_option maxHeartbeats 400000 in
theorem read_len (A : Option Addr) (n c : Nat) (l : List UInt8) (w : World) (hl : l.length = n) (hn : n ≠ 44) :
  Calls Tryz.prog 63 #[.slice A n c] w fun e w' => ∃ cs, e = .returned (.tuple #[.agg cs, .int .i64 (readE l)]) ∧ Hid (IsMan w' (fun b => w.heap.size ≤ b) cs (readM l)) ∧ Hid (Below w.heap.size w w') := by
 have hE : readE l = 3 := by unfold readE; rw [if_neg (fun h => hn (hl.symm.trans h.1))]
 have hM : readM l = LMan.zero := by unfold readM; rw [if_neg (fun h => hn (hl.symm.trans h.1))]
 have q : ((n : Int) != 44) = true := by simp; omega
 rw [hE, hM]
 clear hE hM
 have HN := Lib.hid hn
 clear hn hl
 have X0 := Lib.hid (heap_alloc_new w (.cells #[.int .u32 0, .int .u32 0, .int .i64 0, .int .i64 0, .int .i64 0, .slice none 0 0] 37))
 have B0 : Hid (Below w.heap.size w (w.alloc (.cells #[.int .u32 0, .int .u32 0, .int .i64 0, .int .i64 0, .int .i64 0, .slice none 0 0] 37))) := Lib.hid ((Below.refl _ _).alloc (Nat.le_refl _) _)
 go_enter Tryz.func63, Tryz.ntmps63
 go_upto_region 2 with fail
 generalize w.alloc (.cells #[.int .u32 0, .int .u32 0, .int .i64 0, .int .i64 0, .int .i64 0, .slice none 0 0] 37) = w0 at *
 go_wp2_with ((with_reducible show wpList _ _ _ _ _ _); refine wpList_store_row rfl _ (.tmp 2) (.tmp 8) rfl (w.heap.size) #[.int .u32 0, .int .u32 0, .int .i64 0, .int .i64 0, .int .i64 0, .slice none 0 0] rfl rfl _ _ X0.out (by kernel_rfl) (by rfl) (by simp [Value.oneCell']) ?_)
 have hrow : (w0.setRow w.heap.size #[.int .u32 0, .int .u32 0, .int .i64 0, .int .i64 0, .int .i64 0, .slice none 0 0]).heap[w.heap.size]? = some (.cells #[.int .u32 0, .int .u32 0, .int .i64 0, .int .i64 0, .int .i64 0, .slice none 0 0] 37 (0, 0)) := setRow_heap _ _ _ _ _ _ X0.out
 refine bodyPost_ret (results_cell_tmp_row rfl _ _ (w.heap.size) _ _ (0, 0) _ rfl hrow Tryz.underlying37 rfl (by kernel_rfl)) rfl ?_
 exact ⟨_, rfl, Lib.hid ⟨none, 0, rfl, .nil _ _ _⟩, Lib.hid (below_setRow2 B0.out (Nat.le_refl _) _)⟩
theorem read_any (A : Option Addr) (n c : Nat) (l : List UInt8) (w : World) (hl : Row w w.heap.size A n (bv l)) (hc : n ≤ c) (hc2 : c ≤ 9223372036854775807) :
  Calls Tryz.prog 63 #[.slice A n c] w fun e w' => ∃ cs, e = .returned (.tuple #[.agg cs, .int .i64 (readE l)]) ∧ Hid (IsMan w' (fun b => w.heap.size ≤ b) cs (readM l)) ∧ Hid (Below w.heap.size w w') := by
 by_cases hn : n = 44
 ·subst hn
  obtain ⟨b, o, rfl, _⟩ := hl.2 (by omega)
  exact read_44 c b o l w hl hc hc2
 ·exact read_len A n c l w hl.blen hn
end Go.Proofs.YtmncpgfdpcckpaaGreatDoor
