/- The reference's ReadManifest: by contract. -/
import Derived.Test.YtdipccjgpkedhaaManRead
import Derived.Test.YtdipccjgpkedhaaRPlain
import Derived.Test.YtdipccjgpkedhaaNumR
namespace Go.Proofs.Ytdipccjgpkedhaa
open Go.RowKit
set_option maxRecDepth 100000 in
set_option maxHeartbeats 12800000 in
theorem rread_44 (c b o : Nat) (l : List UInt8) (w : World) (hl : Row w w.heap.size (some ⟨b, o, none⟩) 44 (bv l)) (hc : 44 ≤ c) (hc2 : c ≤ 9223372036854775807) :
    Calls Try.prog 41 #[.slice (some ⟨b, o, none⟩) 44 c] w fun e w' => ∃ cs, e = .returned (.tuple #[.agg cs, .int .i64 (readE l)]) ∧ Hid (IsMan w' (fun b => w.heap.size ≤ b) cs (readM l)) ∧ Hid (Below w.heap.size w w') := by
  have h44 : l.length = 44 := by have := hl.1; rwa [bv_length] at this
  have hb0 : Below w.heap.size w (w.alloc (.cells #[.int .u32 0, .int .u32 0, .int .i64 0, .int .i64 0, .int .i64 0, .slice none 0 0] 28)) := (Below.refl _ _).alloc (Nat.le_refl _) _
  have X0 := Lib.hid (heap_alloc_new w (.cells #[.int .u32 0, .int .u32 0, .int .i64 0, .int .i64 0, .int .i64 0, .slice none 0 0] 28))
  have HR := Lib.hid ((hl.below hb0).more hb0.size)
  have LW : Hid (w.heap.size < (w.alloc (.cells #[.int .u32 0, .int .u32 0, .int .i64 0, .int .i64 0, .int .i64 0, .slice none 0 0] 28)).heap.size) := Lib.hid (by simp)
  have B0 := Lib.hid hb0
  have HL := Lib.hid h44
  have HD12 : Hid ((l.drop 12).length = 32) := Lib.hid (by simp; omega)
  have i10 : 10 < l.length := by omega
  have i11 : 11 < l.length := by omega
  have b10 := CrcM.b_lt l[10]
  have b11 := CrcM.b_lt l[11]
  have q4 : (4 : Int) ≤ c := by omega
  have q8 : (8 : Int) ≤ c := by omega
  have q10 : (10 : Int) ≤ c := by omega
  have q12 : (12 : Int) ≤ c := by omega
  have n4 : ¬ (c : Int) = 4 := by omega
  have n8 : ¬ (c : Int) = 8 := by omega
  have n12 : ¬ (c : Int) = 12 := by omega
  have m4 : ¬ c = 4 := by omega
  have m8 : ¬ c = 8 := by omega
  have m12 : ¬ c = 12 := by omega
  clear hl hb0 h44
  go_enter Try.func41, Try.ntmps41
  go_upto_region 3 with fail
  generalize w.alloc (.cells #[.int .u32 0, .int .u32 0, .int .i64 0, .int .i64 0, .int .i64 0, .slice none 0 0] 28) = w0 at *
  have HQ1 : Hid (∀ W, Below w0.heap.size w0 W → Row W w0.heap.size (some ⟨b, o, none⟩) 4 (bv (l.take 4))) := Lib.hid fun W hW => by rw [← bv_take]; exact (HR.out.below hW).head (by omega)
  have HQ2 : Hid (∀ W, Below w0.heap.size w0 W → Row W w0.heap.size (some ⟨b, o + 4, none⟩) 4 (bv ((l.drop 4).take 4))) := Lib.hid fun W hW => by rw [← bv_take, ← bv_drop]; exact (HR.out.below hW).sub (by omega) fun b' o' e _ => by injection e with e; injection e with e1 e2; subst e1 e2; rfl
  have HQ3 : Hid (∀ W, Below w0.heap.size w0 W → Row W w0.heap.size (some ⟨b, o + 8, none⟩) 2 (bv ((l.drop 8).take 2))) := Lib.hid fun W hW => by rw [← bv_take, ← bv_drop]; exact (HR.out.below hW).sub (by omega) fun b' o' e _ => by injection e with e; injection e with e1 e2; subst e1 e2; rfl
  have HQ4 : Hid (∀ W, Below w0.heap.size w0 W → Row W w0.heap.size (some ⟨b, o + 12, none⟩) 32 (bv (l.drop 12))) := Lib.hid fun W hW => by rw [← List.take_of_length_le (Nat.le_of_eq HD12.out), ← bv_take, ← bv_drop]; exact (HR.out.below hW).sub (by omega) fun b' o' e _ => by injection e with e; injection e with e1 e2; subst e1 e2; rfl
  have HC : Hid (∀ W, Below w0.heap.size w0 W → W.cell? ⟨b, o + 10, none⟩ = some (.int .u8 (l[10].toNat : Int)) ∧ W.cell? ⟨b, o + 11, none⟩ = some (.int .u8 (l[11].toNat : Int))) := Lib.hid fun W hW => by
    have hr := HR.out.below hW
    obtain ⟨b', o', e, _, _, h1⟩ := hr.byteAt (k := 10) (by omega)
    obtain ⟨b2, o2, e2, _, _, h2⟩ := hr.byteAt (k := 11) (by omega)
    injection e with e; injection e with e1 e3; subst e1 e3
    injection e2 with e2; injection e2 with e1 e3; subst e1 e3
    exact ⟨h1, h2⟩
  have HW3 : Hid (IntKind.i64.wrap ((CrcM.number ((l.drop 8).take 2) : Nat) : Int) = (CrcM.number ((l.drop 8).take 2) : Nat)) := Lib.hid (IntWalk.i64_in _ (by have := num_lt2 ((l.drop 8).take 2) (by simp; omega); omega))
  have HW10 : Hid (IntKind.i64.wrap (l[10].toNat : Int) = (l[10].toNat : Int)) := Lib.hid (IntWalk.i64_in _ (by omega))
  have HW11 : Hid (IntKind.i64.wrap (l[11].toNat : Int) = (l[11].toNat : Int)) := Lib.hid (IntWalk.i64_in _ (by omega))
  go_cut [4] (fun s4 wx => ∃ g A c, s4 = .pointer (some ⟨g, 0, none⟩) ∧ Hid (wx.heap[g]? = some (.cells #[.int .u32 (CrcM.number (l.take 4) : Nat), .int .u32 (CrcM.number ((l.drop 4).take 4) : Nat), .int .i64 (CrcM.number ((l.drop 8).take 2) : Nat), .int .i64 (l[10].toNat : Int), .int .i64 (l[11].toNat : Int), .slice A 32 c] 28 (0, 0))) ∧ Hid (RowP wx (fun b => w.heap.size < b) A 32 (bv (l.drop 12))) ∧ Hid (Below w0.heap.size w0 wx))
  case first =>
    refine wp_region_noPanic ?_
    refine wp_region_held_drew (S := (fun W => Below (w0.heap.size) w0 W)) (by kernel_rfl) (Below.refl _ _).drew (fun hH0 => ?_)
    have hH0 : Below (w0.heap.size) w0 w0.drew := hH0
    generalize w0.drew = wd3000 at *
    refine wpAnyH_take (i := 0) (oi := { dst := some 9, op := Op.move (Operand.tmp 0), type := 23, pos := "ref.go:298", after := #[], guard := none }) (v := ?tkv3001) rfl (by kernel_rfl) (by kernel_rfl) (by kernel_rfl) (fun _ _ _ h => h) (Or.inl ⟨by rfl, ?tky3001⟩) hH0 ?tkr3001
    case tky3001 => (intro w' hSw; clear hSw; go_simp; try with_reducible rfl)
    try simp only [Act.put, List.setIfInBounds_toArray, List.set_cons_zero, List.set_cons_succ]
    refine wpAnyH_take (i := 1) (oi := { dst := some 10, op := Op.slice 23 (Operand.tmp 9) none (some (Operand.const (Value.int IntKind.i64 4))) none, type := 23, pos := "ref.go:298", after := #[{ on := 0, ground := Ground.data }], guard := none }) (v := ?tkv3002) rfl (by kernel_rfl) (by kernel_rfl) (by kernel_rfl) (fun _ _ _ h => h) (Or.inl ⟨by rfl, ?tky3002⟩) hH0 ?tkr3002
    case tky3002 => (intro w' hSw; have z0 := HC.out _ hSw; clear hSw; go_simp; try with_reducible rfl)
    try simp only [Act.put, List.setIfInBounds_toArray, List.set_cons_zero, List.set_cons_succ]
    refine wpAnyH_take (i := 3) (oi := { dst := some 12, op := Op.move (Operand.tmp 0), type := 23, pos := "ref.go:298", after := #[], guard := none }) (v := ?tkv3003) rfl (by kernel_rfl) (by kernel_rfl) (by kernel_rfl) (fun _ _ _ h => h) (Or.inl ⟨by rfl, ?tky3003⟩) hH0 ?tkr3003
    case tky3003 => (intro w' hSw; clear hSw; go_simp; try with_reducible rfl)
    try simp only [Act.put, List.setIfInBounds_toArray, List.set_cons_zero, List.set_cons_succ]
    refine wpAnyH_take (i := 4) (oi := { dst := some 13, op := Op.slice 23 (Operand.tmp 12) (some (Operand.const (Value.int IntKind.i64 4))) (some (Operand.const (Value.int IntKind.i64 8))) none, type := 23, pos := "ref.go:298", after := #[{ on := 3, ground := Ground.data }], guard := none }) (v := ?tkv3004) rfl (by kernel_rfl) (by kernel_rfl) (by kernel_rfl) (fun _ _ _ h => h) (Or.inl ⟨by rfl, ?tky3004⟩) hH0 ?tkr3004
    case tky3004 => (intro w' hSw; have z0 := HC.out _ hSw; clear hSw; go_simp; try with_reducible rfl)
    try simp only [Act.put, List.setIfInBounds_toArray, List.set_cons_zero, List.set_cons_succ]
    refine wpAnyH_take (i := 6) (oi := { dst := some 15, op := Op.move (Operand.tmp 0), type := 23, pos := "ref.go:298", after := #[], guard := none }) (v := ?tkv3005) rfl (by kernel_rfl) (by kernel_rfl) (by kernel_rfl) (fun _ _ _ h => h) (Or.inl ⟨by rfl, ?tky3005⟩) hH0 ?tkr3005
    case tky3005 => (intro w' hSw; clear hSw; go_simp; try with_reducible rfl)
    try simp only [Act.put, List.setIfInBounds_toArray, List.set_cons_zero, List.set_cons_succ]
    refine wpAnyH_take (i := 7) (oi := { dst := some 16, op := Op.slice 23 (Operand.tmp 15) (some (Operand.const (Value.int IntKind.i64 8))) (some (Operand.const (Value.int IntKind.i64 10))) none, type := 23, pos := "ref.go:298", after := #[{ on := 6, ground := Ground.data }], guard := none }) (v := ?tkv3006) rfl (by kernel_rfl) (by kernel_rfl) (by kernel_rfl) (fun _ _ _ h => h) (Or.inl ⟨by rfl, ?tky3006⟩) hH0 ?tkr3006
    case tky3006 => (intro w' hSw; have z0 := HC.out _ hSw; clear hSw; go_simp; try with_reducible rfl)
    try simp only [Act.put, List.setIfInBounds_toArray, List.set_cons_zero, List.set_cons_succ]
    refine wpAnyH_take (i := 10) (oi := { dst := some 19, op := Op.move (Operand.tmp 0), type := 23, pos := "ref.go:298", after := #[], guard := none }) (v := ?tkv3007) rfl (by kernel_rfl) (by kernel_rfl) (by kernel_rfl) (fun _ _ _ h => h) (Or.inl ⟨by rfl, ?tky3007⟩) hH0 ?tkr3007
    case tky3007 => (intro w' hSw; clear hSw; go_simp; try with_reducible rfl)
    try simp only [Act.put, List.setIfInBounds_toArray, List.set_cons_zero, List.set_cons_succ]
    refine wpAnyH_take (i := 11) (oi := { dst := some 20, op := Op.indexAddr 23 (Operand.tmp 19) (Operand.const (Value.int IntKind.i64 10)), type := 0, pos := "ref.go:298", after := #[{ on := 10, ground := Ground.data }], guard := none }) (v := ?tkv3008) rfl (by kernel_rfl) (by kernel_rfl) (by kernel_rfl) (fun _ _ _ h => h) (Or.inl ⟨by rfl, ?tky3008⟩) hH0 ?tkr3008
    case tky3008 => (intro w' hSw; clear hSw; go_simp; try with_reducible rfl)
    try simp only [Act.put, List.setIfInBounds_toArray, List.set_cons_zero, List.set_cons_succ]
    refine wpAnyH_take (i := 12) (oi := { dst := some 21, op := Op.load 5 (Operand.tmp 20), type := 5, pos := "ref.go:298", after := #[{ on := 11, ground := Ground.data }], guard := none }) (v := ?tkv3009) rfl (by kernel_rfl) (by kernel_rfl) (by kernel_rfl) (fun _ _ _ h => h) (Or.inl ⟨by rfl, ?tky3009⟩) hH0 ?tkr3009
    case tky3009 => (intro w' hSw; have z0 := HC.out _ hSw; clear hSw; go_simp; try with_reducible rfl)
    try simp only [Act.put, List.setIfInBounds_toArray, List.set_cons_zero, List.set_cons_succ]
    refine wpAnyH_take (i := 13) (oi := { dst := some 22, op := Op.convert 5 3 (Operand.tmp 21), type := 3, pos := "ref.go:298", after := #[{ on := 12, ground := Ground.data }], guard := none }) (v := ?tkv3010) rfl (by kernel_rfl) (by kernel_rfl) (by kernel_rfl) (fun _ _ _ h => h) (Or.inl ⟨by rfl, ?tky3010⟩) hH0 ?tkr3010
    case tky3010 => (intro w' hSw; have z0 := HC.out _ hSw; clear hSw; go_simp; try with_reducible rfl)
    try simp only [Act.put, List.setIfInBounds_toArray, List.set_cons_zero, List.set_cons_succ]
    refine wpAnyH_take (i := 14) (oi := { dst := some 23, op := Op.move (Operand.tmp 0), type := 23, pos := "ref.go:298", after := #[], guard := none }) (v := ?tkv3011) rfl (by kernel_rfl) (by kernel_rfl) (by kernel_rfl) (fun _ _ _ h => h) (Or.inl ⟨by rfl, ?tky3011⟩) hH0 ?tkr3011
    case tky3011 => (intro w' hSw; clear hSw; go_simp; try with_reducible rfl)
    try simp only [Act.put, List.setIfInBounds_toArray, List.set_cons_zero, List.set_cons_succ]
    refine wpAnyH_take (i := 15) (oi := { dst := some 24, op := Op.indexAddr 23 (Operand.tmp 23) (Operand.const (Value.int IntKind.i64 11)), type := 0, pos := "ref.go:298", after := #[{ on := 14, ground := Ground.data }], guard := none }) (v := ?tkv3012) rfl (by kernel_rfl) (by kernel_rfl) (by kernel_rfl) (fun _ _ _ h => h) (Or.inl ⟨by rfl, ?tky3012⟩) hH0 ?tkr3012
    case tky3012 => (intro w' hSw; clear hSw; go_simp; try with_reducible rfl)
    try simp only [Act.put, List.setIfInBounds_toArray, List.set_cons_zero, List.set_cons_succ]
    refine wpAnyH_take (i := 16) (oi := { dst := some 25, op := Op.load 5 (Operand.tmp 24), type := 5, pos := "ref.go:298", after := #[{ on := 15, ground := Ground.data }], guard := none }) (v := ?tkv3013) rfl (by kernel_rfl) (by kernel_rfl) (by kernel_rfl) (fun _ _ _ h => h) (Or.inl ⟨by rfl, ?tky3013⟩) hH0 ?tkr3013
    case tky3013 => (intro w' hSw; have z0 := HC.out _ hSw; clear hSw; go_simp; try with_reducible rfl)
    try simp only [Act.put, List.setIfInBounds_toArray, List.set_cons_zero, List.set_cons_succ]
    refine wpAnyH_take (i := 17) (oi := { dst := some 26, op := Op.convert 5 3 (Operand.tmp 25), type := 3, pos := "ref.go:298", after := #[{ on := 16, ground := Ground.data }], guard := none }) (v := ?tkv3014) rfl (by kernel_rfl) (by kernel_rfl) (by kernel_rfl) (fun _ _ _ h => h) (Or.inl ⟨by rfl, ?tky3014⟩) hH0 ?tkr3014
    case tky3014 => (intro w' hSw; have z0 := HC.out _ hSw; clear hSw; go_simp; try with_reducible rfl)
    try simp only [Act.put, List.setIfInBounds_toArray, List.set_cons_zero, List.set_cons_succ]
    refine wpAnyH_take (i := 18) (oi := { dst := some 27, op := Op.move (Operand.tmp 0), type := 23, pos := "ref.go:298", after := #[], guard := none }) (v := ?tkv3015) rfl (by kernel_rfl) (by kernel_rfl) (by kernel_rfl) (fun _ _ _ h => h) (Or.inl ⟨by rfl, ?tky3015⟩) hH0 ?tkr3015
    case tky3015 => (intro w' hSw; clear hSw; go_simp; try with_reducible rfl)
    try simp only [Act.put, List.setIfInBounds_toArray, List.set_cons_zero, List.set_cons_succ]
    refine wpAnyH_take (i := 19) (oi := { dst := some 28, op := Op.slice 23 (Operand.tmp 27) (some (Operand.const (Value.int IntKind.i64 12))) none none, type := 23, pos := "ref.go:298", after := #[{ on := 18, ground := Ground.data }], guard := none }) (v := ?tkv3016) rfl (by kernel_rfl) (by kernel_rfl) (by kernel_rfl) (fun _ _ _ h => h) (Or.inl ⟨by rfl, ?tky3016⟩) hH0 ?tkr3016
    case tky3016 => (intro w' hSw; have z0 := HC.out _ hSw; clear hSw; go_simp; try with_reducible rfl)
    try simp only [Act.put, List.setIfInBounds_toArray, List.set_cons_zero, List.set_cons_succ]
    refine wpAnyH_ready (rs := [2, 20, 23]) (by kernel_rfl) (by simp) ?_
    refine AllReadyH.cons (o := { dst := some 11, op := Op.call { callee := Callee.value (Operand.func 39), args := #[Operand.tmp 10], argTypes := #[23] }, type := 22, pos := "ref.go:298", after := #[{ on := 1, ground := Ground.data }], guard := none }) rfl (fun K hK => ?_) (AllReadyH.cons (o := { dst := some 29, op := Op.buildSlice 69 1 #[(0, Operand.tmp 28)], type := 69, pos := "ref.go:298", after := #[{ on := 19, ground := Ground.data }], guard := none }) rfl (fun K hK => ?_) (AllReadyH.cons (o := { dst := some 4, op := Op.alloc 28, type := 0, pos := "ref.go:298", after := #[], guard := none }) rfl (fun K hK => ?_) AllReadyH.nil))
    · go_simp
      refine (r1num_any 4 w0.heap.size _ _ _ wd3000 (HQ1.out wd3000 (hH0)) (by omega)).mono ?_
      rintro e' _ ⟨rfl, rfl⟩
      go_simp
      have hS3017 : Below (w0.heap.size) w0 wd3000 := hH0
      refine hK.out _ _ hS3017 (fun hH3017 => ?_)
      have hH3017 : Below (w0.heap.size) w0 wd3000 := hH3017
      clear hK K hS3017
      try simp only [Act.put, List.setIfInBounds_toArray, List.set_cons_zero, List.set_cons_succ]
      refine wpAnyH_ready (rs := [5, 20, 23]) (by kernel_rfl) (by simp) ?_
      refine AllReadyH.cons (o := { dst := some 14, op := Op.call { callee := Callee.value (Operand.func 39), args := #[Operand.tmp 13], argTypes := #[23] }, type := 22, pos := "ref.go:298", after := #[{ on := 4, ground := Ground.data }, { on := 2, ground := Ground.chain }], guard := none }) rfl (fun K hK => ?_) (AllReadyH.cons (o := { dst := some 29, op := Op.buildSlice 69 1 #[(0, Operand.tmp 28)], type := 69, pos := "ref.go:298", after := #[{ on := 19, ground := Ground.data }], guard := none }) rfl (fun K hK => ?_) (AllReadyH.cons (o := { dst := some 4, op := Op.alloc 28, type := 0, pos := "ref.go:298", after := #[], guard := none }) rfl (fun K hK => ?_) AllReadyH.nil))
      · go_simp
        refine (r1num_any 4 w0.heap.size _ _ _ wd3000 (HQ2.out wd3000 (hH3017)) (by omega)).mono ?_
        rintro e' _ ⟨rfl, rfl⟩
        go_simp
        have hS3018 : Below (w0.heap.size) w0 wd3000 := hH3017
        refine hK.out _ _ hS3018 (fun hH3018 => ?_)
        have hH3018 : Below (w0.heap.size) w0 wd3000 := hH3018
        clear hK K hS3018
        try simp only [Act.put, List.setIfInBounds_toArray, List.set_cons_zero, List.set_cons_succ]
        refine wpAnyH_ready (rs := [8, 20, 23]) (by kernel_rfl) (by simp) ?_
        refine AllReadyH.cons (o := { dst := some 17, op := Op.call { callee := Callee.value (Operand.func 39), args := #[Operand.tmp 16], argTypes := #[23] }, type := 22, pos := "ref.go:298", after := #[{ on := 7, ground := Ground.data }, { on := 5, ground := Ground.chain }], guard := none }) rfl (fun K hK => ?_) (AllReadyH.cons (o := { dst := some 29, op := Op.buildSlice 69 1 #[(0, Operand.tmp 28)], type := 69, pos := "ref.go:298", after := #[{ on := 19, ground := Ground.data }], guard := none }) rfl (fun K hK => ?_) (AllReadyH.cons (o := { dst := some 4, op := Op.alloc 28, type := 0, pos := "ref.go:298", after := #[], guard := none }) rfl (fun K hK => ?_) AllReadyH.nil))
        · go_simp
          refine (r1num_any 2 w0.heap.size _ _ _ wd3000 (HQ3.out wd3000 (hH3018)) (by omega)).mono ?_
          rintro e' _ ⟨rfl, rfl⟩
          go_simp
          have hS3019 : Below (w0.heap.size) w0 wd3000 := hH3018
          refine hK.out _ _ hS3019 (fun hH3019 => ?_)
          have hH3019 : Below (w0.heap.size) w0 wd3000 := hH3019
          clear hK K hS3019
          try simp only [Act.put, List.setIfInBounds_toArray, List.set_cons_zero, List.set_cons_succ]
          refine wpAnyH_take (i := 9) (oi := { dst := some 18, op := Op.convert 22 3 (Operand.tmp 17), type := 3, pos := "ref.go:298", after := #[{ on := 8, ground := Ground.data }], guard := none }) (v := ?tkv3020) rfl (by kernel_rfl) (by kernel_rfl) (by kernel_rfl) (fun _ _ _ h => h) (Or.inl ⟨by rfl, ?tky3020⟩) hH3019 ?tkr3020
          case tky3020 => (intro w' hSw; have z0 := HC.out _ hSw; clear hSw; go_simp; try with_reducible rfl)
          try simp only [Act.put, List.setIfInBounds_toArray, List.set_cons_zero, List.set_cons_succ]
          refine wpAnyH_ready (rs := [20, 23]) (by kernel_rfl) (by simp) ?_
          refine AllReadyH.cons (o := { dst := some 29, op := Op.buildSlice 69 1 #[(0, Operand.tmp 28)], type := 69, pos := "ref.go:298", after := #[{ on := 19, ground := Ground.data }], guard := none }) rfl (fun K hK => ?_) (AllReadyH.cons (o := { dst := some 4, op := Op.alloc 28, type := 0, pos := "ref.go:298", after := #[], guard := none }) rfl (fun K hK => ?_) AllReadyH.nil)
          · go_simp
            have hb3021 : Below wd3000.heap.size wd3000 (wd3000.alloc (.cells #[.slice (some ⟨b, o + 12, none⟩) 32 (c - 12)] 23)) := (Below.refl _ _).alloc (Nat.le_refl _) _
            have BX3021 : Hid ((wd3000.alloc (.cells #[.slice (some ⟨b, o + 12, none⟩) 32 (c - 12)] 23)).heap[wd3000.heap.size]? = some (.cells #[.slice (some ⟨b, o + 12, none⟩) 32 (c - 12)] 23 (0, 0))) := Lib.hid (heap_alloc_new _ _)
            have LX3021 : Hid (wd3000.heap.size < (wd3000.alloc (.cells #[.slice (some ⟨b, o + 12, none⟩) 32 (c - 12)] 23)).heap.size) := Lib.hid (by simp)
            generalize (wd3000.alloc (.cells #[.slice (some ⟨b, o + 12, none⟩) 32 (c - 12)] 23)) = wn3021 at *
            have hS3021 : Below (w0.heap.size) w0 wn3021 := (hH3019).trans (hb3021.mono (hH3019).size)
            refine hK.out _ _ hS3021 (fun hH3021 => ?_)
            have hH3021 : Below (w0.heap.size) w0 wn3021 := hH3021
            clear hK K hS3021
            try simp only [Act.put, List.setIfInBounds_toArray, List.set_cons_zero, List.set_cons_succ]
            refine wpAnyH_ready (rs := [21, 23]) (by kernel_rfl) (by simp) ?_
            refine AllReadyH.cons (o := { dst := some 30, op := Op.call { callee := Callee.value (Operand.func 24), args := #[Operand.tmp 29], argTypes := #[69] }, type := 23, pos := "ref.go:298", after := #[{ on := 20, ground := Ground.data }, { on := 8, ground := Ground.chain }], guard := none }) rfl (fun K hK => ?_) (AllReadyH.cons (o := { dst := some 4, op := Op.alloc 28, type := 0, pos := "ref.go:298", after := #[], guard := none }) rfl (fun K hK => ?_) AllReadyH.nil)
            · go_simp
              refine (join_box [⟨some ⟨b, o + 12, none⟩, 32, c - 12, l.drop 12⟩] 1 rfl rfl BX3021.out (by
                intro r hr
                simp only [List.mem_cons, List.not_mem_nil, or_false] at hr
                subst hr
                exact RowP.of_row ((HQ4.out wn3021 (hH3021)).more (hH3021).size)) (by simp) (by have := HL.out; simp [flat]; omega) (l := l.drop 12) (by simp [flat])).mono ?_
              rintro e' wn3022 ⟨Ak3022, nk3022, ck3022, rfl, hn3022, ho3022, hb3022⟩
              have hn23022 := hn3022.out
              rw [HD12.out] at hn23022
              subst hn23022
              have RK3022_ : Hid (RowP wn3022 (fun b => w.heap.size < b) Ak3022 32 (bv (l.drop 12))) := Lib.hid (own_rowP ho3022 (Nat.lt_of_lt_of_le LW.out (hH3021).size))
              clear ho3022 hn3022
              go_simp
              have BX3021_3022 := Lib.hid ((hb3022.block wd3000.heap.size LX3021.out).trans BX3021.out)
              have LX3021_3022 := Lib.hid (Nat.lt_of_lt_of_le LX3021.out hb3022.size)
              have hS3022 : Below (w0.heap.size) w0 wn3022 := (hH3021).trans (hb3022.mono (hH3021).size)
              refine hK.out _ _ hS3022 (fun hH3022 => ?_)
              have hH3022 : Below (w0.heap.size) w0 wn3022 := hH3022
              clear hK K hS3022
              try simp only [Act.put, List.setIfInBounds_toArray, List.set_cons_zero, List.set_cons_succ]
              refine wpAnyH_take (i := 22) (oi := { dst := some 31, op := Op.build 28 #[(0, Operand.tmp 11), (1, Operand.tmp 14), (2, Operand.tmp 18), (3, Operand.tmp 22), (4, Operand.tmp 26), (5, Operand.tmp 30)], type := 28, pos := "ref.go:298", after := #[{ on := 2, ground := Ground.data }, { on := 5, ground := Ground.data }, { on := 9, ground := Ground.data }, { on := 13, ground := Ground.data }, { on := 17, ground := Ground.data }, { on := 21, ground := Ground.data }], guard := none }) (v := ?tkv3023) rfl (by kernel_rfl) (by kernel_rfl) (by kernel_rfl) (fun _ _ _ h => h) (Or.inl ⟨by rfl, ?tky3023⟩) hH3022 ?tkr3023
              case tky3023 => (intro w' hSw; clear hSw; go_simp; try with_reducible rfl)
              try simp only [Act.put, List.setIfInBounds_toArray, List.set_cons_zero, List.set_cons_succ]
              refine wpAnyH_ready (rs := [23]) (by kernel_rfl) (by simp) ?_
              refine AllReadyH.cons (o := { dst := some 4, op := Op.alloc 28, type := 0, pos := "ref.go:298", after := #[], guard := none }) rfl (fun K hK => ?_) AllReadyH.nil
              go_simp
              have hb3024 : Below wn3022.heap.size wn3022 (wn3022.alloc (.cells #[.int .u32 0, .int .u32 0, .int .i64 0, .int .i64 0, .int .i64 0, .slice none 0 0] 28)) := (Below.refl _ _).alloc (Nat.le_refl _) _
              have BX3024 : Hid ((wn3022.alloc (.cells #[.int .u32 0, .int .u32 0, .int .i64 0, .int .i64 0, .int .i64 0, .slice none 0 0] 28)).heap[wn3022.heap.size]? = some (.cells #[.int .u32 0, .int .u32 0, .int .i64 0, .int .i64 0, .int .i64 0, .slice none 0 0] 28 (0, 0))) := Lib.hid (heap_alloc_new _ _)
              have LX3024 : Hid (wn3022.heap.size < (wn3022.alloc (.cells #[.int .u32 0, .int .u32 0, .int .i64 0, .int .i64 0, .int .i64 0, .slice none 0 0] 28)).heap.size) := Lib.hid (by simp)
              have GE3024 : Hid (w0.heap.size ≤ wn3022.heap.size) := Lib.hid (hH3022).size
              have RQ3024_ := Lib.hid (RK3022_.out.imp (P' := fun b => w.heap.size < b ∧ b ≠ wn3022.heap.size) (fun b hb hp => ⟨hp, Nat.ne_of_lt hb⟩))
              generalize (wn3022.alloc (.cells #[.int .u32 0, .int .u32 0, .int .i64 0, .int .i64 0, .int .i64 0, .slice none 0 0] 28)) = wn3024 at *
              have BX3021_3024 := Lib.hid ((hb3024.block wd3000.heap.size LX3021_3022.out).trans BX3021_3022.out)
              have LX3021_3024 := Lib.hid (Nat.lt_of_lt_of_le LX3021_3022.out hb3024.size)
              have RQ3024_3024 := Lib.hid (RQ3024_.out.below hb3024)
              have hS3024 : Below (w0.heap.size) w0 wn3024 := (hH3022).trans (hb3024.mono (hH3022).size)
              refine hK.out _ _ hS3024 (fun hH3024 => ?_)
              have hH3024 : Below (w0.heap.size) w0 wn3024 := hH3024
              clear hK K hS3024
              try simp only [Act.put, List.setIfInBounds_toArray, List.set_cons_zero, List.set_cons_succ]
              refine wpAnyH_ready (rs := [24]) (by kernel_rfl) (by simp) ?_
              refine AllReadyH.cons (o := { dst := none, op := Op.store 28 (Operand.tmp 4) (Operand.tmp 31), type := 0, pos := "ref.go:298", after := #[{ on := 23, ground := Ground.data }, { on := 22, ground := Ground.data }, { on := 21, ground := Ground.chain }, { on := 0, ground := Ground.phase }, { on := 1, ground := Ground.phase }, { on := 2, ground := Ground.phase }, { on := 3, ground := Ground.phase }, { on := 4, ground := Ground.phase }, { on := 5, ground := Ground.phase }, { on := 6, ground := Ground.phase }, { on := 7, ground := Ground.phase }, { on := 8, ground := Ground.phase }, { on := 9, ground := Ground.phase }, { on := 10, ground := Ground.phase }, { on := 11, ground := Ground.phase }, { on := 12, ground := Ground.phase }, { on := 13, ground := Ground.phase }, { on := 14, ground := Ground.phase }, { on := 15, ground := Ground.phase }, { on := 16, ground := Ground.phase }, { on := 17, ground := Ground.phase }, { on := 18, ground := Ground.phase }, { on := 19, ground := Ground.phase }, { on := 20, ground := Ground.phase }, { on := 21, ground := Ground.phase }, { on := 22, ground := Ground.phase }, { on := 23, ground := Ground.phase }], guard := none }) rfl (fun K hK => ?_) AllReadyH.nil
              rw [if_pos (by rfl)]
              rw [HW3.out, HW10.out, HW11.out]
              refine wp_store_row _ _ _ rfl wn3022.heap.size #[.int .u32 (CrcM.number (l.take 4) : Nat), .int .u32 (CrcM.number ((l.drop 4).take 4) : Nat), .int .i64 (CrcM.number ((l.drop 8).take 2) : Nat), .int .i64 (l[10].toNat : Int), .int .i64 (l[11].toNat : Int), .slice Ak3022 32 ck3022] rfl rfl _ _ BX3024.out (by kernel_rfl) (by rfl) (by simp [Value.oneCell']) ?_
              have hS3025 : Below (w0.heap.size) w0 (wn3024.setRow wn3022.heap.size #[.int .u32 (CrcM.number (l.take 4) : Nat), .int .u32 (CrcM.number ((l.drop 4).take 4) : Nat), .int .i64 (CrcM.number ((l.drop 8).take 2) : Nat), .int .i64 (l[10].toNat : Int), .int .i64 (l[11].toNat : Int), .slice Ak3022 32 ck3022]) := (below_setRow2 (hH3024) GE3024.out _)
              refine hK.out _ _ hS3025 (fun hH3025 => ?_)
              have hH3025 : Below (w0.heap.size) w0 (wn3024.setRow wn3022.heap.size #[.int .u32 (CrcM.number (l.take 4) : Nat), .int .u32 (CrcM.number ((l.drop 4).take 4) : Nat), .int .i64 (CrcM.number ((l.drop 8).take 2) : Nat), .int .i64 (l[10].toNat : Int), .int .i64 (l[11].toNat : Int), .slice Ak3022 32 ck3022]) := hH3025
              clear hK K hS3025
              refine wpAnyH_done (by kernel_rfl) ?_ _
              refine NoPanic.normal ?_
              have HBX := Lib.hid (setRow_heap _ _ _ #[.int .u32 (CrcM.number (l.take 4) : Nat), .int .u32 (CrcM.number ((l.drop 4).take 4) : Nat), .int .i64 (CrcM.number ((l.drop 8).take 2) : Nat), .int .i64 (l[10].toNat : Int), .int .i64 (l[11].toNat : Int), .slice Ak3022 32 ck3022] _ _ BX3024.out)
              have HRW := Lib.hid ((RQ3024_3024.out.keep (Nat.le_of_eq (setRow_size _ _ _).symm) fun b hb _ => setRow_other _ _ _ #[.int .u32 (CrcM.number (l.take 4) : Nat), .int .u32 (CrcM.number ((l.drop 4).take 4) : Nat), .int .i64 (CrcM.number ((l.drop 8).take 2) : Nat), .int .i64 (l[10].toNat : Int), .int .i64 (l[11].toNat : Int), .slice Ak3022 32 ck3022] hb.2).imp (P' := fun b => w.heap.size < b) fun b _ hb => hb.1)
              go_wp2_with fail
              go_meet
              exact ⟨_, _, _, rfl, HBX, HRW, Lib.hid (hH3025)⟩
            · go_simp
              have hb3026 : Below wn3021.heap.size wn3021 (wn3021.alloc (.cells #[.int .u32 0, .int .u32 0, .int .i64 0, .int .i64 0, .int .i64 0, .slice none 0 0] 28)) := (Below.refl _ _).alloc (Nat.le_refl _) _
              have BX3026 : Hid ((wn3021.alloc (.cells #[.int .u32 0, .int .u32 0, .int .i64 0, .int .i64 0, .int .i64 0, .slice none 0 0] 28)).heap[wn3021.heap.size]? = some (.cells #[.int .u32 0, .int .u32 0, .int .i64 0, .int .i64 0, .int .i64 0, .slice none 0 0] 28 (0, 0))) := Lib.hid (heap_alloc_new _ _)
              have LX3026 : Hid (wn3021.heap.size < (wn3021.alloc (.cells #[.int .u32 0, .int .u32 0, .int .i64 0, .int .i64 0, .int .i64 0, .slice none 0 0] 28)).heap.size) := Lib.hid (by simp)
              have GE3026 : Hid (w0.heap.size ≤ wn3021.heap.size) := Lib.hid (hH3021).size
              generalize (wn3021.alloc (.cells #[.int .u32 0, .int .u32 0, .int .i64 0, .int .i64 0, .int .i64 0, .slice none 0 0] 28)) = wn3026 at *
              have BX3021_3026 := Lib.hid ((hb3026.block wd3000.heap.size LX3021.out).trans BX3021.out)
              have LX3021_3026 := Lib.hid (Nat.lt_of_lt_of_le LX3021.out hb3026.size)
              have hS3026 : Below (w0.heap.size) w0 wn3026 := (hH3021).trans (hb3026.mono (hH3021).size)
              refine hK.out _ _ hS3026 (fun hH3026 => ?_)
              have hH3026 : Below (w0.heap.size) w0 wn3026 := hH3026
              clear hK K hS3026
              try simp only [Act.put, List.setIfInBounds_toArray, List.set_cons_zero, List.set_cons_succ]
              refine wpAnyH_ready (rs := [21]) (by kernel_rfl) (by simp) ?_
              refine AllReadyH.cons (o := { dst := some 30, op := Op.call { callee := Callee.value (Operand.func 24), args := #[Operand.tmp 29], argTypes := #[69] }, type := 23, pos := "ref.go:298", after := #[{ on := 20, ground := Ground.data }, { on := 8, ground := Ground.chain }], guard := none }) rfl (fun K hK => ?_) AllReadyH.nil
              go_simp
              refine (join_box [⟨some ⟨b, o + 12, none⟩, 32, c - 12, l.drop 12⟩] 1 rfl rfl BX3021_3026.out (by
                intro r hr
                simp only [List.mem_cons, List.not_mem_nil, or_false] at hr
                subst hr
                exact RowP.of_row ((HQ4.out wn3026 (hH3026)).more (hH3026).size)) (by simp) (by have := HL.out; simp [flat]; omega) (l := l.drop 12) (by simp [flat])).mono ?_
              rintro e' wn3027 ⟨Ak3027, nk3027, ck3027, rfl, hn3027, ho3027, hb3027⟩
              have hn23027 := hn3027.out
              rw [HD12.out] at hn23027
              subst hn23027
              have RK3027_ : Hid (RowP wn3027 (fun b => w.heap.size < b ∧ b ≠ wn3021.heap.size) Ak3027 32 (bv (l.drop 12))) := Lib.hid (own_rowQ ho3027 LX3026.out (Nat.lt_of_lt_of_le LW.out (hH3026).size))
              clear ho3027 hn3027
              go_simp
              have BX3021_3027 := Lib.hid ((hb3027.block wd3000.heap.size LX3021_3026.out).trans BX3021_3026.out)
              have LX3021_3027 := Lib.hid (Nat.lt_of_lt_of_le LX3021_3026.out hb3027.size)
              have BX3026_3027 := Lib.hid ((hb3027.block wn3021.heap.size LX3026.out).trans BX3026.out)
              have LX3026_3027 := Lib.hid (Nat.lt_of_lt_of_le LX3026.out hb3027.size)
              have hS3027 : Below (w0.heap.size) w0 wn3027 := (hH3026).trans (hb3027.mono (hH3026).size)
              refine hK.out _ _ hS3027 (fun hH3027 => ?_)
              have hH3027 : Below (w0.heap.size) w0 wn3027 := hH3027
              clear hK K hS3027
              try simp only [Act.put, List.setIfInBounds_toArray, List.set_cons_zero, List.set_cons_succ]
              refine wpAnyH_take (i := 22) (oi := { dst := some 31, op := Op.build 28 #[(0, Operand.tmp 11), (1, Operand.tmp 14), (2, Operand.tmp 18), (3, Operand.tmp 22), (4, Operand.tmp 26), (5, Operand.tmp 30)], type := 28, pos := "ref.go:298", after := #[{ on := 2, ground := Ground.data }, { on := 5, ground := Ground.data }, { on := 9, ground := Ground.data }, { on := 13, ground := Ground.data }, { on := 17, ground := Ground.data }, { on := 21, ground := Ground.data }], guard := none }) (v := ?tkv3028) rfl (by kernel_rfl) (by kernel_rfl) (by kernel_rfl) (fun _ _ _ h => h) (Or.inl ⟨by rfl, ?tky3028⟩) hH3027 ?tkr3028
              case tky3028 => (intro w' hSw; clear hSw; go_simp; try with_reducible rfl)
              try simp only [Act.put, List.setIfInBounds_toArray, List.set_cons_zero, List.set_cons_succ]
              refine wpAnyH_ready (rs := [24]) (by kernel_rfl) (by simp) ?_
              refine AllReadyH.cons (o := { dst := none, op := Op.store 28 (Operand.tmp 4) (Operand.tmp 31), type := 0, pos := "ref.go:298", after := #[{ on := 23, ground := Ground.data }, { on := 22, ground := Ground.data }, { on := 21, ground := Ground.chain }, { on := 0, ground := Ground.phase }, { on := 1, ground := Ground.phase }, { on := 2, ground := Ground.phase }, { on := 3, ground := Ground.phase }, { on := 4, ground := Ground.phase }, { on := 5, ground := Ground.phase }, { on := 6, ground := Ground.phase }, { on := 7, ground := Ground.phase }, { on := 8, ground := Ground.phase }, { on := 9, ground := Ground.phase }, { on := 10, ground := Ground.phase }, { on := 11, ground := Ground.phase }, { on := 12, ground := Ground.phase }, { on := 13, ground := Ground.phase }, { on := 14, ground := Ground.phase }, { on := 15, ground := Ground.phase }, { on := 16, ground := Ground.phase }, { on := 17, ground := Ground.phase }, { on := 18, ground := Ground.phase }, { on := 19, ground := Ground.phase }, { on := 20, ground := Ground.phase }, { on := 21, ground := Ground.phase }, { on := 22, ground := Ground.phase }, { on := 23, ground := Ground.phase }], guard := none }) rfl (fun K hK => ?_) AllReadyH.nil
              rw [if_pos (by rfl)]
              rw [HW3.out, HW10.out, HW11.out]
              refine wp_store_row _ _ _ rfl wn3021.heap.size #[.int .u32 (CrcM.number (l.take 4) : Nat), .int .u32 (CrcM.number ((l.drop 4).take 4) : Nat), .int .i64 (CrcM.number ((l.drop 8).take 2) : Nat), .int .i64 (l[10].toNat : Int), .int .i64 (l[11].toNat : Int), .slice Ak3027 32 ck3027] rfl rfl _ _ BX3026_3027.out (by kernel_rfl) (by rfl) (by simp [Value.oneCell']) ?_
              have hS3029 : Below (w0.heap.size) w0 (wn3027.setRow wn3021.heap.size #[.int .u32 (CrcM.number (l.take 4) : Nat), .int .u32 (CrcM.number ((l.drop 4).take 4) : Nat), .int .i64 (CrcM.number ((l.drop 8).take 2) : Nat), .int .i64 (l[10].toNat : Int), .int .i64 (l[11].toNat : Int), .slice Ak3027 32 ck3027]) := (below_setRow2 (hH3027) GE3026.out _)
              refine hK.out _ _ hS3029 (fun hH3029 => ?_)
              have hH3029 : Below (w0.heap.size) w0 (wn3027.setRow wn3021.heap.size #[.int .u32 (CrcM.number (l.take 4) : Nat), .int .u32 (CrcM.number ((l.drop 4).take 4) : Nat), .int .i64 (CrcM.number ((l.drop 8).take 2) : Nat), .int .i64 (l[10].toNat : Int), .int .i64 (l[11].toNat : Int), .slice Ak3027 32 ck3027]) := hH3029
              clear hK K hS3029
              refine wpAnyH_done (by kernel_rfl) ?_ _
              refine NoPanic.normal ?_
              have HBX := Lib.hid (setRow_heap _ _ _ #[.int .u32 (CrcM.number (l.take 4) : Nat), .int .u32 (CrcM.number ((l.drop 4).take 4) : Nat), .int .i64 (CrcM.number ((l.drop 8).take 2) : Nat), .int .i64 (l[10].toNat : Int), .int .i64 (l[11].toNat : Int), .slice Ak3027 32 ck3027] _ _ BX3026_3027.out)
              have HRW := Lib.hid ((RK3027_.out.keep (Nat.le_of_eq (setRow_size _ _ _).symm) fun b hb _ => setRow_other _ _ _ #[.int .u32 (CrcM.number (l.take 4) : Nat), .int .u32 (CrcM.number ((l.drop 4).take 4) : Nat), .int .i64 (CrcM.number ((l.drop 8).take 2) : Nat), .int .i64 (l[10].toNat : Int), .int .i64 (l[11].toNat : Int), .slice Ak3027 32 ck3027] hb.2).imp (P' := fun b => w.heap.size < b) fun b _ hb => hb.1)
              go_wp2_with fail
              go_meet
              exact ⟨_, _, _, rfl, HBX, HRW, Lib.hid (hH3029)⟩
          · go_simp
            have hb3030 : Below wd3000.heap.size wd3000 (wd3000.alloc (.cells #[.int .u32 0, .int .u32 0, .int .i64 0, .int .i64 0, .int .i64 0, .slice none 0 0] 28)) := (Below.refl _ _).alloc (Nat.le_refl _) _
            have BX3030 : Hid ((wd3000.alloc (.cells #[.int .u32 0, .int .u32 0, .int .i64 0, .int .i64 0, .int .i64 0, .slice none 0 0] 28)).heap[wd3000.heap.size]? = some (.cells #[.int .u32 0, .int .u32 0, .int .i64 0, .int .i64 0, .int .i64 0, .slice none 0 0] 28 (0, 0))) := Lib.hid (heap_alloc_new _ _)
            have LX3030 : Hid (wd3000.heap.size < (wd3000.alloc (.cells #[.int .u32 0, .int .u32 0, .int .i64 0, .int .i64 0, .int .i64 0, .slice none 0 0] 28)).heap.size) := Lib.hid (by simp)
            have GE3030 : Hid (w0.heap.size ≤ wd3000.heap.size) := Lib.hid (hH3019).size
            generalize (wd3000.alloc (.cells #[.int .u32 0, .int .u32 0, .int .i64 0, .int .i64 0, .int .i64 0, .slice none 0 0] 28)) = wn3030 at *
            have hS3030 : Below (w0.heap.size) w0 wn3030 := (hH3019).trans (hb3030.mono (hH3019).size)
            refine hK.out _ _ hS3030 (fun hH3030 => ?_)
            have hH3030 : Below (w0.heap.size) w0 wn3030 := hH3030
            clear hK K hS3030
            try simp only [Act.put, List.setIfInBounds_toArray, List.set_cons_zero, List.set_cons_succ]
            refine wpAnyH_ready (rs := [20]) (by kernel_rfl) (by simp) ?_
            refine AllReadyH.cons (o := { dst := some 29, op := Op.buildSlice 69 1 #[(0, Operand.tmp 28)], type := 69, pos := "ref.go:298", after := #[{ on := 19, ground := Ground.data }], guard := none }) rfl (fun K hK => ?_) AllReadyH.nil
            go_simp
            have hb3031 : Below wn3030.heap.size wn3030 (wn3030.alloc (.cells #[.slice (some ⟨b, o + 12, none⟩) 32 (c - 12)] 23)) := (Below.refl _ _).alloc (Nat.le_refl _) _
            have BX3031 : Hid ((wn3030.alloc (.cells #[.slice (some ⟨b, o + 12, none⟩) 32 (c - 12)] 23)).heap[wn3030.heap.size]? = some (.cells #[.slice (some ⟨b, o + 12, none⟩) 32 (c - 12)] 23 (0, 0))) := Lib.hid (heap_alloc_new _ _)
            have LX3031 : Hid (wn3030.heap.size < (wn3030.alloc (.cells #[.slice (some ⟨b, o + 12, none⟩) 32 (c - 12)] 23)).heap.size) := Lib.hid (by simp)
            generalize (wn3030.alloc (.cells #[.slice (some ⟨b, o + 12, none⟩) 32 (c - 12)] 23)) = wn3031 at *
            have BX3030_3031 := Lib.hid ((hb3031.block wd3000.heap.size LX3030.out).trans BX3030.out)
            have LX3030_3031 := Lib.hid (Nat.lt_of_lt_of_le LX3030.out hb3031.size)
            have hS3031 : Below (w0.heap.size) w0 wn3031 := (hH3030).trans (hb3031.mono (hH3030).size)
            refine hK.out _ _ hS3031 (fun hH3031 => ?_)
            have hH3031 : Below (w0.heap.size) w0 wn3031 := hH3031
            clear hK K hS3031
            try simp only [Act.put, List.setIfInBounds_toArray, List.set_cons_zero, List.set_cons_succ]
            refine wpAnyH_ready (rs := [21]) (by kernel_rfl) (by simp) ?_
            refine AllReadyH.cons (o := { dst := some 30, op := Op.call { callee := Callee.value (Operand.func 24), args := #[Operand.tmp 29], argTypes := #[69] }, type := 23, pos := "ref.go:298", after := #[{ on := 20, ground := Ground.data }, { on := 8, ground := Ground.chain }], guard := none }) rfl (fun K hK => ?_) AllReadyH.nil
            go_simp
            refine (join_box [⟨some ⟨b, o + 12, none⟩, 32, c - 12, l.drop 12⟩] 1 rfl rfl BX3031.out (by
              intro r hr
              simp only [List.mem_cons, List.not_mem_nil, or_false] at hr
              subst hr
              exact RowP.of_row ((HQ4.out wn3031 (hH3031)).more (hH3031).size)) (by simp) (by have := HL.out; simp [flat]; omega) (l := l.drop 12) (by simp [flat])).mono ?_
            rintro e' wn3032 ⟨Ak3032, nk3032, ck3032, rfl, hn3032, ho3032, hb3032⟩
            have hn23032 := hn3032.out
            rw [HD12.out] at hn23032
            subst hn23032
            have RK3032_ : Hid (RowP wn3032 (fun b => w.heap.size < b ∧ b ≠ wd3000.heap.size) Ak3032 32 (bv (l.drop 12))) := Lib.hid (own_rowQ ho3032 LX3030_3031.out (Nat.lt_of_lt_of_le LW.out (hH3031).size))
            clear ho3032 hn3032
            go_simp
            have BX3030_3032 := Lib.hid ((hb3032.block wd3000.heap.size LX3030_3031.out).trans BX3030_3031.out)
            have LX3030_3032 := Lib.hid (Nat.lt_of_lt_of_le LX3030_3031.out hb3032.size)
            have BX3031_3032 := Lib.hid ((hb3032.block wn3030.heap.size LX3031.out).trans BX3031.out)
            have LX3031_3032 := Lib.hid (Nat.lt_of_lt_of_le LX3031.out hb3032.size)
            have hS3032 : Below (w0.heap.size) w0 wn3032 := (hH3031).trans (hb3032.mono (hH3031).size)
            refine hK.out _ _ hS3032 (fun hH3032 => ?_)
            have hH3032 : Below (w0.heap.size) w0 wn3032 := hH3032
            clear hK K hS3032
            try simp only [Act.put, List.setIfInBounds_toArray, List.set_cons_zero, List.set_cons_succ]
            refine wpAnyH_take (i := 22) (oi := { dst := some 31, op := Op.build 28 #[(0, Operand.tmp 11), (1, Operand.tmp 14), (2, Operand.tmp 18), (3, Operand.tmp 22), (4, Operand.tmp 26), (5, Operand.tmp 30)], type := 28, pos := "ref.go:298", after := #[{ on := 2, ground := Ground.data }, { on := 5, ground := Ground.data }, { on := 9, ground := Ground.data }, { on := 13, ground := Ground.data }, { on := 17, ground := Ground.data }, { on := 21, ground := Ground.data }], guard := none }) (v := ?tkv3033) rfl (by kernel_rfl) (by kernel_rfl) (by kernel_rfl) (fun _ _ _ h => h) (Or.inl ⟨by rfl, ?tky3033⟩) hH3032 ?tkr3033
            case tky3033 => (intro w' hSw; clear hSw; go_simp; try with_reducible rfl)
            try simp only [Act.put, List.setIfInBounds_toArray, List.set_cons_zero, List.set_cons_succ]
            refine wpAnyH_ready (rs := [24]) (by kernel_rfl) (by simp) ?_
            refine AllReadyH.cons (o := { dst := none, op := Op.store 28 (Operand.tmp 4) (Operand.tmp 31), type := 0, pos := "ref.go:298", after := #[{ on := 23, ground := Ground.data }, { on := 22, ground := Ground.data }, { on := 21, ground := Ground.chain }, { on := 0, ground := Ground.phase }, { on := 1, ground := Ground.phase }, { on := 2, ground := Ground.phase }, { on := 3, ground := Ground.phase }, { on := 4, ground := Ground.phase }, { on := 5, ground := Ground.phase }, { on := 6, ground := Ground.phase }, { on := 7, ground := Ground.phase }, { on := 8, ground := Ground.phase }, { on := 9, ground := Ground.phase }, { on := 10, ground := Ground.phase }, { on := 11, ground := Ground.phase }, { on := 12, ground := Ground.phase }, { on := 13, ground := Ground.phase }, { on := 14, ground := Ground.phase }, { on := 15, ground := Ground.phase }, { on := 16, ground := Ground.phase }, { on := 17, ground := Ground.phase }, { on := 18, ground := Ground.phase }, { on := 19, ground := Ground.phase }, { on := 20, ground := Ground.phase }, { on := 21, ground := Ground.phase }, { on := 22, ground := Ground.phase }, { on := 23, ground := Ground.phase }], guard := none }) rfl (fun K hK => ?_) AllReadyH.nil
            rw [if_pos (by rfl)]
            rw [HW3.out, HW10.out, HW11.out]
            refine wp_store_row _ _ _ rfl wd3000.heap.size #[.int .u32 (CrcM.number (l.take 4) : Nat), .int .u32 (CrcM.number ((l.drop 4).take 4) : Nat), .int .i64 (CrcM.number ((l.drop 8).take 2) : Nat), .int .i64 (l[10].toNat : Int), .int .i64 (l[11].toNat : Int), .slice Ak3032 32 ck3032] rfl rfl _ _ BX3030_3032.out (by kernel_rfl) (by rfl) (by simp [Value.oneCell']) ?_
            have hS3034 : Below (w0.heap.size) w0 (wn3032.setRow wd3000.heap.size #[.int .u32 (CrcM.number (l.take 4) : Nat), .int .u32 (CrcM.number ((l.drop 4).take 4) : Nat), .int .i64 (CrcM.number ((l.drop 8).take 2) : Nat), .int .i64 (l[10].toNat : Int), .int .i64 (l[11].toNat : Int), .slice Ak3032 32 ck3032]) := (below_setRow2 (hH3032) GE3030.out _)
            refine hK.out _ _ hS3034 (fun hH3034 => ?_)
            have hH3034 : Below (w0.heap.size) w0 (wn3032.setRow wd3000.heap.size #[.int .u32 (CrcM.number (l.take 4) : Nat), .int .u32 (CrcM.number ((l.drop 4).take 4) : Nat), .int .i64 (CrcM.number ((l.drop 8).take 2) : Nat), .int .i64 (l[10].toNat : Int), .int .i64 (l[11].toNat : Int), .slice Ak3032 32 ck3032]) := hH3034
            clear hK K hS3034
            refine wpAnyH_done (by kernel_rfl) ?_ _
            refine NoPanic.normal ?_
            have HBX := Lib.hid (setRow_heap _ _ _ #[.int .u32 (CrcM.number (l.take 4) : Nat), .int .u32 (CrcM.number ((l.drop 4).take 4) : Nat), .int .i64 (CrcM.number ((l.drop 8).take 2) : Nat), .int .i64 (l[10].toNat : Int), .int .i64 (l[11].toNat : Int), .slice Ak3032 32 ck3032] _ _ BX3030_3032.out)
            have HRW := Lib.hid ((RK3032_.out.keep (Nat.le_of_eq (setRow_size _ _ _).symm) fun b hb _ => setRow_other _ _ _ #[.int .u32 (CrcM.number (l.take 4) : Nat), .int .u32 (CrcM.number ((l.drop 4).take 4) : Nat), .int .i64 (CrcM.number ((l.drop 8).take 2) : Nat), .int .i64 (l[10].toNat : Int), .int .i64 (l[11].toNat : Int), .slice Ak3032 32 ck3032] hb.2).imp (P' := fun b => w.heap.size < b) fun b _ hb => hb.1)
            go_wp2_with fail
            go_meet
            exact ⟨_, _, _, rfl, HBX, HRW, Lib.hid (hH3034)⟩
        · go_simp
          have hb3035 : Below wd3000.heap.size wd3000 (wd3000.alloc (.cells #[.slice (some ⟨b, o + 12, none⟩) 32 (c - 12)] 23)) := (Below.refl _ _).alloc (Nat.le_refl _) _
          have BX3035 : Hid ((wd3000.alloc (.cells #[.slice (some ⟨b, o + 12, none⟩) 32 (c - 12)] 23)).heap[wd3000.heap.size]? = some (.cells #[.slice (some ⟨b, o + 12, none⟩) 32 (c - 12)] 23 (0, 0))) := Lib.hid (heap_alloc_new _ _)
          have LX3035 : Hid (wd3000.heap.size < (wd3000.alloc (.cells #[.slice (some ⟨b, o + 12, none⟩) 32 (c - 12)] 23)).heap.size) := Lib.hid (by simp)
          generalize (wd3000.alloc (.cells #[.slice (some ⟨b, o + 12, none⟩) 32 (c - 12)] 23)) = wn3035 at *
          have hS3035 : Below (w0.heap.size) w0 wn3035 := (hH3018).trans (hb3035.mono (hH3018).size)
          refine hK.out _ _ hS3035 (fun hH3035 => ?_)
          have hH3035 : Below (w0.heap.size) w0 wn3035 := hH3035
          clear hK K hS3035
          try simp only [Act.put, List.setIfInBounds_toArray, List.set_cons_zero, List.set_cons_succ]
          refine wpAnyH_ready (rs := [8, 23]) (by kernel_rfl) (by simp) ?_
          refine AllReadyH.cons (o := { dst := some 17, op := Op.call { callee := Callee.value (Operand.func 39), args := #[Operand.tmp 16], argTypes := #[23] }, type := 22, pos := "ref.go:298", after := #[{ on := 7, ground := Ground.data }, { on := 5, ground := Ground.chain }], guard := none }) rfl (fun K hK => ?_) (AllReadyH.cons (o := { dst := some 4, op := Op.alloc 28, type := 0, pos := "ref.go:298", after := #[], guard := none }) rfl (fun K hK => ?_) AllReadyH.nil)
          · go_simp
            refine (r1num_any 2 w0.heap.size _ _ _ wn3035 (HQ3.out wn3035 (hH3035)) (by omega)).mono ?_
            rintro e' _ ⟨rfl, rfl⟩
            go_simp
            have hS3036 : Below (w0.heap.size) w0 wn3035 := hH3035
            refine hK.out _ _ hS3036 (fun hH3036 => ?_)
            have hH3036 : Below (w0.heap.size) w0 wn3035 := hH3036
            clear hK K hS3036
            try simp only [Act.put, List.setIfInBounds_toArray, List.set_cons_zero, List.set_cons_succ]
            refine wpAnyH_take (i := 9) (oi := { dst := some 18, op := Op.convert 22 3 (Operand.tmp 17), type := 3, pos := "ref.go:298", after := #[{ on := 8, ground := Ground.data }], guard := none }) (v := ?tkv3037) rfl (by kernel_rfl) (by kernel_rfl) (by kernel_rfl) (fun _ _ _ h => h) (Or.inl ⟨by rfl, ?tky3037⟩) hH3036 ?tkr3037
            case tky3037 => (intro w' hSw; have z0 := HC.out _ hSw; clear hSw; go_simp; try with_reducible rfl)
            try simp only [Act.put, List.setIfInBounds_toArray, List.set_cons_zero, List.set_cons_succ]
            refine wpAnyH_ready (rs := [21, 23]) (by kernel_rfl) (by simp) ?_
            refine AllReadyH.cons (o := { dst := some 30, op := Op.call { callee := Callee.value (Operand.func 24), args := #[Operand.tmp 29], argTypes := #[69] }, type := 23, pos := "ref.go:298", after := #[{ on := 20, ground := Ground.data }, { on := 8, ground := Ground.chain }], guard := none }) rfl (fun K hK => ?_) (AllReadyH.cons (o := { dst := some 4, op := Op.alloc 28, type := 0, pos := "ref.go:298", after := #[], guard := none }) rfl (fun K hK => ?_) AllReadyH.nil)
            · go_simp
              refine (join_box [⟨some ⟨b, o + 12, none⟩, 32, c - 12, l.drop 12⟩] 1 rfl rfl BX3035.out (by
                intro r hr
                simp only [List.mem_cons, List.not_mem_nil, or_false] at hr
                subst hr
                exact RowP.of_row ((HQ4.out wn3035 (hH3036)).more (hH3036).size)) (by simp) (by have := HL.out; simp [flat]; omega) (l := l.drop 12) (by simp [flat])).mono ?_
              rintro e' wn3038 ⟨Ak3038, nk3038, ck3038, rfl, hn3038, ho3038, hb3038⟩
              have hn23038 := hn3038.out
              rw [HD12.out] at hn23038
              subst hn23038
              have RK3038_ : Hid (RowP wn3038 (fun b => w.heap.size < b) Ak3038 32 (bv (l.drop 12))) := Lib.hid (own_rowP ho3038 (Nat.lt_of_lt_of_le LW.out (hH3036).size))
              clear ho3038 hn3038
              go_simp
              have BX3035_3038 := Lib.hid ((hb3038.block wd3000.heap.size LX3035.out).trans BX3035.out)
              have LX3035_3038 := Lib.hid (Nat.lt_of_lt_of_le LX3035.out hb3038.size)
              have hS3038 : Below (w0.heap.size) w0 wn3038 := (hH3036).trans (hb3038.mono (hH3036).size)
              refine hK.out _ _ hS3038 (fun hH3038 => ?_)
              have hH3038 : Below (w0.heap.size) w0 wn3038 := hH3038
              clear hK K hS3038
              try simp only [Act.put, List.setIfInBounds_toArray, List.set_cons_zero, List.set_cons_succ]
              refine wpAnyH_take (i := 22) (oi := { dst := some 31, op := Op.build 28 #[(0, Operand.tmp 11), (1, Operand.tmp 14), (2, Operand.tmp 18), (3, Operand.tmp 22), (4, Operand.tmp 26), (5, Operand.tmp 30)], type := 28, pos := "ref.go:298", after := #[{ on := 2, ground := Ground.data }, { on := 5, ground := Ground.data }, { on := 9, ground := Ground.data }, { on := 13, ground := Ground.data }, { on := 17, ground := Ground.data }, { on := 21, ground := Ground.data }], guard := none }) (v := ?tkv3039) rfl (by kernel_rfl) (by kernel_rfl) (by kernel_rfl) (fun _ _ _ h => h) (Or.inl ⟨by rfl, ?tky3039⟩) hH3038 ?tkr3039
              case tky3039 => (intro w' hSw; clear hSw; go_simp; try with_reducible rfl)
              try simp only [Act.put, List.setIfInBounds_toArray, List.set_cons_zero, List.set_cons_succ]
              refine wpAnyH_ready (rs := [23]) (by kernel_rfl) (by simp) ?_
              refine AllReadyH.cons (o := { dst := some 4, op := Op.alloc 28, type := 0, pos := "ref.go:298", after := #[], guard := none }) rfl (fun K hK => ?_) AllReadyH.nil
              go_simp
              have hb3040 : Below wn3038.heap.size wn3038 (wn3038.alloc (.cells #[.int .u32 0, .int .u32 0, .int .i64 0, .int .i64 0, .int .i64 0, .slice none 0 0] 28)) := (Below.refl _ _).alloc (Nat.le_refl _) _
              have BX3040 : Hid ((wn3038.alloc (.cells #[.int .u32 0, .int .u32 0, .int .i64 0, .int .i64 0, .int .i64 0, .slice none 0 0] 28)).heap[wn3038.heap.size]? = some (.cells #[.int .u32 0, .int .u32 0, .int .i64 0, .int .i64 0, .int .i64 0, .slice none 0 0] 28 (0, 0))) := Lib.hid (heap_alloc_new _ _)
              have LX3040 : Hid (wn3038.heap.size < (wn3038.alloc (.cells #[.int .u32 0, .int .u32 0, .int .i64 0, .int .i64 0, .int .i64 0, .slice none 0 0] 28)).heap.size) := Lib.hid (by simp)
              have GE3040 : Hid (w0.heap.size ≤ wn3038.heap.size) := Lib.hid (hH3038).size
              have RQ3040_ := Lib.hid (RK3038_.out.imp (P' := fun b => w.heap.size < b ∧ b ≠ wn3038.heap.size) (fun b hb hp => ⟨hp, Nat.ne_of_lt hb⟩))
              generalize (wn3038.alloc (.cells #[.int .u32 0, .int .u32 0, .int .i64 0, .int .i64 0, .int .i64 0, .slice none 0 0] 28)) = wn3040 at *
              have BX3035_3040 := Lib.hid ((hb3040.block wd3000.heap.size LX3035_3038.out).trans BX3035_3038.out)
              have LX3035_3040 := Lib.hid (Nat.lt_of_lt_of_le LX3035_3038.out hb3040.size)
              have RQ3040_3040 := Lib.hid (RQ3040_.out.below hb3040)
              have hS3040 : Below (w0.heap.size) w0 wn3040 := (hH3038).trans (hb3040.mono (hH3038).size)
              refine hK.out _ _ hS3040 (fun hH3040 => ?_)
              have hH3040 : Below (w0.heap.size) w0 wn3040 := hH3040
              clear hK K hS3040
              try simp only [Act.put, List.setIfInBounds_toArray, List.set_cons_zero, List.set_cons_succ]
              refine wpAnyH_ready (rs := [24]) (by kernel_rfl) (by simp) ?_
              refine AllReadyH.cons (o := { dst := none, op := Op.store 28 (Operand.tmp 4) (Operand.tmp 31), type := 0, pos := "ref.go:298", after := #[{ on := 23, ground := Ground.data }, { on := 22, ground := Ground.data }, { on := 21, ground := Ground.chain }, { on := 0, ground := Ground.phase }, { on := 1, ground := Ground.phase }, { on := 2, ground := Ground.phase }, { on := 3, ground := Ground.phase }, { on := 4, ground := Ground.phase }, { on := 5, ground := Ground.phase }, { on := 6, ground := Ground.phase }, { on := 7, ground := Ground.phase }, { on := 8, ground := Ground.phase }, { on := 9, ground := Ground.phase }, { on := 10, ground := Ground.phase }, { on := 11, ground := Ground.phase }, { on := 12, ground := Ground.phase }, { on := 13, ground := Ground.phase }, { on := 14, ground := Ground.phase }, { on := 15, ground := Ground.phase }, { on := 16, ground := Ground.phase }, { on := 17, ground := Ground.phase }, { on := 18, ground := Ground.phase }, { on := 19, ground := Ground.phase }, { on := 20, ground := Ground.phase }, { on := 21, ground := Ground.phase }, { on := 22, ground := Ground.phase }, { on := 23, ground := Ground.phase }], guard := none }) rfl (fun K hK => ?_) AllReadyH.nil
              rw [if_pos (by rfl)]
              rw [HW3.out, HW10.out, HW11.out]
              refine wp_store_row _ _ _ rfl wn3038.heap.size #[.int .u32 (CrcM.number (l.take 4) : Nat), .int .u32 (CrcM.number ((l.drop 4).take 4) : Nat), .int .i64 (CrcM.number ((l.drop 8).take 2) : Nat), .int .i64 (l[10].toNat : Int), .int .i64 (l[11].toNat : Int), .slice Ak3038 32 ck3038] rfl rfl _ _ BX3040.out (by kernel_rfl) (by rfl) (by simp [Value.oneCell']) ?_
              have hS3041 : Below (w0.heap.size) w0 (wn3040.setRow wn3038.heap.size #[.int .u32 (CrcM.number (l.take 4) : Nat), .int .u32 (CrcM.number ((l.drop 4).take 4) : Nat), .int .i64 (CrcM.number ((l.drop 8).take 2) : Nat), .int .i64 (l[10].toNat : Int), .int .i64 (l[11].toNat : Int), .slice Ak3038 32 ck3038]) := (below_setRow2 (hH3040) GE3040.out _)
              refine hK.out _ _ hS3041 (fun hH3041 => ?_)
              have hH3041 : Below (w0.heap.size) w0 (wn3040.setRow wn3038.heap.size #[.int .u32 (CrcM.number (l.take 4) : Nat), .int .u32 (CrcM.number ((l.drop 4).take 4) : Nat), .int .i64 (CrcM.number ((l.drop 8).take 2) : Nat), .int .i64 (l[10].toNat : Int), .int .i64 (l[11].toNat : Int), .slice Ak3038 32 ck3038]) := hH3041
              clear hK K hS3041
              refine wpAnyH_done (by kernel_rfl) ?_ _
              refine NoPanic.normal ?_
              have HBX := Lib.hid (setRow_heap _ _ _ #[.int .u32 (CrcM.number (l.take 4) : Nat), .int .u32 (CrcM.number ((l.drop 4).take 4) : Nat), .int .i64 (CrcM.number ((l.drop 8).take 2) : Nat), .int .i64 (l[10].toNat : Int), .int .i64 (l[11].toNat : Int), .slice Ak3038 32 ck3038] _ _ BX3040.out)
              have HRW := Lib.hid ((RQ3040_3040.out.keep (Nat.le_of_eq (setRow_size _ _ _).symm) fun b hb _ => setRow_other _ _ _ #[.int .u32 (CrcM.number (l.take 4) : Nat), .int .u32 (CrcM.number ((l.drop 4).take 4) : Nat), .int .i64 (CrcM.number ((l.drop 8).take 2) : Nat), .int .i64 (l[10].toNat : Int), .int .i64 (l[11].toNat : Int), .slice Ak3038 32 ck3038] hb.2).imp (P' := fun b => w.heap.size < b) fun b _ hb => hb.1)
              go_wp2_with fail
              go_meet
              exact ⟨_, _, _, rfl, HBX, HRW, Lib.hid (hH3041)⟩
            · go_simp
              have hb3042 : Below wn3035.heap.size wn3035 (wn3035.alloc (.cells #[.int .u32 0, .int .u32 0, .int .i64 0, .int .i64 0, .int .i64 0, .slice none 0 0] 28)) := (Below.refl _ _).alloc (Nat.le_refl _) _
              have BX3042 : Hid ((wn3035.alloc (.cells #[.int .u32 0, .int .u32 0, .int .i64 0, .int .i64 0, .int .i64 0, .slice none 0 0] 28)).heap[wn3035.heap.size]? = some (.cells #[.int .u32 0, .int .u32 0, .int .i64 0, .int .i64 0, .int .i64 0, .slice none 0 0] 28 (0, 0))) := Lib.hid (heap_alloc_new _ _)
              have LX3042 : Hid (wn3035.heap.size < (wn3035.alloc (.cells #[.int .u32 0, .int .u32 0, .int .i64 0, .int .i64 0, .int .i64 0, .slice none 0 0] 28)).heap.size) := Lib.hid (by simp)
              have GE3042 : Hid (w0.heap.size ≤ wn3035.heap.size) := Lib.hid (hH3036).size
              generalize (wn3035.alloc (.cells #[.int .u32 0, .int .u32 0, .int .i64 0, .int .i64 0, .int .i64 0, .slice none 0 0] 28)) = wn3042 at *
              have BX3035_3042 := Lib.hid ((hb3042.block wd3000.heap.size LX3035.out).trans BX3035.out)
              have LX3035_3042 := Lib.hid (Nat.lt_of_lt_of_le LX3035.out hb3042.size)
              have hS3042 : Below (w0.heap.size) w0 wn3042 := (hH3036).trans (hb3042.mono (hH3036).size)
              refine hK.out _ _ hS3042 (fun hH3042 => ?_)
              have hH3042 : Below (w0.heap.size) w0 wn3042 := hH3042
              clear hK K hS3042
              try simp only [Act.put, List.setIfInBounds_toArray, List.set_cons_zero, List.set_cons_succ]
              refine wpAnyH_ready (rs := [21]) (by kernel_rfl) (by simp) ?_
              refine AllReadyH.cons (o := { dst := some 30, op := Op.call { callee := Callee.value (Operand.func 24), args := #[Operand.tmp 29], argTypes := #[69] }, type := 23, pos := "ref.go:298", after := #[{ on := 20, ground := Ground.data }, { on := 8, ground := Ground.chain }], guard := none }) rfl (fun K hK => ?_) AllReadyH.nil
              go_simp
              refine (join_box [⟨some ⟨b, o + 12, none⟩, 32, c - 12, l.drop 12⟩] 1 rfl rfl BX3035_3042.out (by
                intro r hr
                simp only [List.mem_cons, List.not_mem_nil, or_false] at hr
                subst hr
                exact RowP.of_row ((HQ4.out wn3042 (hH3042)).more (hH3042).size)) (by simp) (by have := HL.out; simp [flat]; omega) (l := l.drop 12) (by simp [flat])).mono ?_
              rintro e' wn3043 ⟨Ak3043, nk3043, ck3043, rfl, hn3043, ho3043, hb3043⟩
              have hn23043 := hn3043.out
              rw [HD12.out] at hn23043
              subst hn23043
              have RK3043_ : Hid (RowP wn3043 (fun b => w.heap.size < b ∧ b ≠ wn3035.heap.size) Ak3043 32 (bv (l.drop 12))) := Lib.hid (own_rowQ ho3043 LX3042.out (Nat.lt_of_lt_of_le LW.out (hH3042).size))
              clear ho3043 hn3043
              go_simp
              have BX3035_3043 := Lib.hid ((hb3043.block wd3000.heap.size LX3035_3042.out).trans BX3035_3042.out)
              have LX3035_3043 := Lib.hid (Nat.lt_of_lt_of_le LX3035_3042.out hb3043.size)
              have BX3042_3043 := Lib.hid ((hb3043.block wn3035.heap.size LX3042.out).trans BX3042.out)
              have LX3042_3043 := Lib.hid (Nat.lt_of_lt_of_le LX3042.out hb3043.size)
              have hS3043 : Below (w0.heap.size) w0 wn3043 := (hH3042).trans (hb3043.mono (hH3042).size)
              refine hK.out _ _ hS3043 (fun hH3043 => ?_)
              have hH3043 : Below (w0.heap.size) w0 wn3043 := hH3043
              clear hK K hS3043
              try simp only [Act.put, List.setIfInBounds_toArray, List.set_cons_zero, List.set_cons_succ]
              refine wpAnyH_take (i := 22) (oi := { dst := some 31, op := Op.build 28 #[(0, Operand.tmp 11), (1, Operand.tmp 14), (2, Operand.tmp 18), (3, Operand.tmp 22), (4, Operand.tmp 26), (5, Operand.tmp 30)], type := 28, pos := "ref.go:298", after := #[{ on := 2, ground := Ground.data }, { on := 5, ground := Ground.data }, { on := 9, ground := Ground.data }, { on := 13, ground := Ground.data }, { on := 17, ground := Ground.data }, { on := 21, ground := Ground.data }], guard := none }) (v := ?tkv3044) rfl (by kernel_rfl) (by kernel_rfl) (by kernel_rfl) (fun _ _ _ h => h) (Or.inl ⟨by rfl, ?tky3044⟩) hH3043 ?tkr3044
              case tky3044 => (intro w' hSw; clear hSw; go_simp; try with_reducible rfl)
              try simp only [Act.put, List.setIfInBounds_toArray, List.set_cons_zero, List.set_cons_succ]
              refine wpAnyH_ready (rs := [24]) (by kernel_rfl) (by simp) ?_
              refine AllReadyH.cons (o := { dst := none, op := Op.store 28 (Operand.tmp 4) (Operand.tmp 31), type := 0, pos := "ref.go:298", after := #[{ on := 23, ground := Ground.data }, { on := 22, ground := Ground.data }, { on := 21, ground := Ground.chain }, { on := 0, ground := Ground.phase }, { on := 1, ground := Ground.phase }, { on := 2, ground := Ground.phase }, { on := 3, ground := Ground.phase }, { on := 4, ground := Ground.phase }, { on := 5, ground := Ground.phase }, { on := 6, ground := Ground.phase }, { on := 7, ground := Ground.phase }, { on := 8, ground := Ground.phase }, { on := 9, ground := Ground.phase }, { on := 10, ground := Ground.phase }, { on := 11, ground := Ground.phase }, { on := 12, ground := Ground.phase }, { on := 13, ground := Ground.phase }, { on := 14, ground := Ground.phase }, { on := 15, ground := Ground.phase }, { on := 16, ground := Ground.phase }, { on := 17, ground := Ground.phase }, { on := 18, ground := Ground.phase }, { on := 19, ground := Ground.phase }, { on := 20, ground := Ground.phase }, { on := 21, ground := Ground.phase }, { on := 22, ground := Ground.phase }, { on := 23, ground := Ground.phase }], guard := none }) rfl (fun K hK => ?_) AllReadyH.nil
              rw [if_pos (by rfl)]
              rw [HW3.out, HW10.out, HW11.out]
              refine wp_store_row _ _ _ rfl wn3035.heap.size #[.int .u32 (CrcM.number (l.take 4) : Nat), .int .u32 (CrcM.number ((l.drop 4).take 4) : Nat), .int .i64 (CrcM.number ((l.drop 8).take 2) : Nat), .int .i64 (l[10].toNat : Int), .int .i64 (l[11].toNat : Int), .slice Ak3043 32 ck3043] rfl rfl _ _ BX3042_3043.out (by kernel_rfl) (by rfl) (by simp [Value.oneCell']) ?_
              have hS3045 : Below (w0.heap.size) w0 (wn3043.setRow wn3035.heap.size #[.int .u32 (CrcM.number (l.take 4) : Nat), .int .u32 (CrcM.number ((l.drop 4).take 4) : Nat), .int .i64 (CrcM.number ((l.drop 8).take 2) : Nat), .int .i64 (l[10].toNat : Int), .int .i64 (l[11].toNat : Int), .slice Ak3043 32 ck3043]) := (below_setRow2 (hH3043) GE3042.out _)
              refine hK.out _ _ hS3045 (fun hH3045 => ?_)
              have hH3045 : Below (w0.heap.size) w0 (wn3043.setRow wn3035.heap.size #[.int .u32 (CrcM.number (l.take 4) : Nat), .int .u32 (CrcM.number ((l.drop 4).take 4) : Nat), .int .i64 (CrcM.number ((l.drop 8).take 2) : Nat), .int .i64 (l[10].toNat : Int), .int .i64 (l[11].toNat : Int), .slice Ak3043 32 ck3043]) := hH3045
              clear hK K hS3045
              refine wpAnyH_done (by kernel_rfl) ?_ _
              refine NoPanic.normal ?_
              have HBX := Lib.hid (setRow_heap _ _ _ #[.int .u32 (CrcM.number (l.take 4) : Nat), .int .u32 (CrcM.number ((l.drop 4).take 4) : Nat), .int .i64 (CrcM.number ((l.drop 8).take 2) : Nat), .int .i64 (l[10].toNat : Int), .int .i64 (l[11].toNat : Int), .slice Ak3043 32 ck3043] _ _ BX3042_3043.out)
              have HRW := Lib.hid ((RK3043_.out.keep (Nat.le_of_eq (setRow_size _ _ _).symm) fun b hb _ => setRow_other _ _ _ #[.int .u32 (CrcM.number (l.take 4) : Nat), .int .u32 (CrcM.number ((l.drop 4).take 4) : Nat), .int .i64 (CrcM.number ((l.drop 8).take 2) : Nat), .int .i64 (l[10].toNat : Int), .int .i64 (l[11].toNat : Int), .slice Ak3043 32 ck3043] hb.2).imp (P' := fun b => w.heap.size < b) fun b _ hb => hb.1)
              go_wp2_with fail
              go_meet
              exact ⟨_, _, _, rfl, HBX, HRW, Lib.hid (hH3045)⟩
          · go_simp
            have hb3046 : Below wn3035.heap.size wn3035 (wn3035.alloc (.cells #[.int .u32 0, .int .u32 0, .int .i64 0, .int .i64 0, .int .i64 0, .slice none 0 0] 28)) := (Below.refl _ _).alloc (Nat.le_refl _) _
            have BX3046 : Hid ((wn3035.alloc (.cells #[.int .u32 0, .int .u32 0, .int .i64 0, .int .i64 0, .int .i64 0, .slice none 0 0] 28)).heap[wn3035.heap.size]? = some (.cells #[.int .u32 0, .int .u32 0, .int .i64 0, .int .i64 0, .int .i64 0, .slice none 0 0] 28 (0, 0))) := Lib.hid (heap_alloc_new _ _)
            have LX3046 : Hid (wn3035.heap.size < (wn3035.alloc (.cells #[.int .u32 0, .int .u32 0, .int .i64 0, .int .i64 0, .int .i64 0, .slice none 0 0] 28)).heap.size) := Lib.hid (by simp)
            have GE3046 : Hid (w0.heap.size ≤ wn3035.heap.size) := Lib.hid (hH3035).size
            generalize (wn3035.alloc (.cells #[.int .u32 0, .int .u32 0, .int .i64 0, .int .i64 0, .int .i64 0, .slice none 0 0] 28)) = wn3046 at *
            have BX3035_3046 := Lib.hid ((hb3046.block wd3000.heap.size LX3035.out).trans BX3035.out)
            have LX3035_3046 := Lib.hid (Nat.lt_of_lt_of_le LX3035.out hb3046.size)
            have hS3046 : Below (w0.heap.size) w0 wn3046 := (hH3035).trans (hb3046.mono (hH3035).size)
            refine hK.out _ _ hS3046 (fun hH3046 => ?_)
            have hH3046 : Below (w0.heap.size) w0 wn3046 := hH3046
            clear hK K hS3046
            try simp only [Act.put, List.setIfInBounds_toArray, List.set_cons_zero, List.set_cons_succ]
            refine wpAnyH_ready (rs := [8]) (by kernel_rfl) (by simp) ?_
            refine AllReadyH.cons (o := { dst := some 17, op := Op.call { callee := Callee.value (Operand.func 39), args := #[Operand.tmp 16], argTypes := #[23] }, type := 22, pos := "ref.go:298", after := #[{ on := 7, ground := Ground.data }, { on := 5, ground := Ground.chain }], guard := none }) rfl (fun K hK => ?_) AllReadyH.nil
            go_simp
            refine (r1num_any 2 w0.heap.size _ _ _ wn3046 (HQ3.out wn3046 (hH3046)) (by omega)).mono ?_
            rintro e' _ ⟨rfl, rfl⟩
            go_simp
            have hS3047 : Below (w0.heap.size) w0 wn3046 := hH3046
            refine hK.out _ _ hS3047 (fun hH3047 => ?_)
            have hH3047 : Below (w0.heap.size) w0 wn3046 := hH3047
            clear hK K hS3047
            try simp only [Act.put, List.setIfInBounds_toArray, List.set_cons_zero, List.set_cons_succ]
            refine wpAnyH_take (i := 9) (oi := { dst := some 18, op := Op.convert 22 3 (Operand.tmp 17), type := 3, pos := "ref.go:298", after := #[{ on := 8, ground := Ground.data }], guard := none }) (v := ?tkv3048) rfl (by kernel_rfl) (by kernel_rfl) (by kernel_rfl) (fun _ _ _ h => h) (Or.inl ⟨by rfl, ?tky3048⟩) hH3047 ?tkr3048
            case tky3048 => (intro w' hSw; have z0 := HC.out _ hSw; clear hSw; go_simp; try with_reducible rfl)
            try simp only [Act.put, List.setIfInBounds_toArray, List.set_cons_zero, List.set_cons_succ]
            refine wpAnyH_ready (rs := [21]) (by kernel_rfl) (by simp) ?_
            refine AllReadyH.cons (o := { dst := some 30, op := Op.call { callee := Callee.value (Operand.func 24), args := #[Operand.tmp 29], argTypes := #[69] }, type := 23, pos := "ref.go:298", after := #[{ on := 20, ground := Ground.data }, { on := 8, ground := Ground.chain }], guard := none }) rfl (fun K hK => ?_) AllReadyH.nil
            go_simp
            refine (join_box [⟨some ⟨b, o + 12, none⟩, 32, c - 12, l.drop 12⟩] 1 rfl rfl BX3035_3046.out (by
              intro r hr
              simp only [List.mem_cons, List.not_mem_nil, or_false] at hr
              subst hr
              exact RowP.of_row ((HQ4.out wn3046 (hH3047)).more (hH3047).size)) (by simp) (by have := HL.out; simp [flat]; omega) (l := l.drop 12) (by simp [flat])).mono ?_
            rintro e' wn3049 ⟨Ak3049, nk3049, ck3049, rfl, hn3049, ho3049, hb3049⟩
            have hn23049 := hn3049.out
            rw [HD12.out] at hn23049
            subst hn23049
            have RK3049_ : Hid (RowP wn3049 (fun b => w.heap.size < b ∧ b ≠ wn3035.heap.size) Ak3049 32 (bv (l.drop 12))) := Lib.hid (own_rowQ ho3049 LX3046.out (Nat.lt_of_lt_of_le LW.out (hH3047).size))
            clear ho3049 hn3049
            go_simp
            have BX3035_3049 := Lib.hid ((hb3049.block wd3000.heap.size LX3035_3046.out).trans BX3035_3046.out)
            have LX3035_3049 := Lib.hid (Nat.lt_of_lt_of_le LX3035_3046.out hb3049.size)
            have BX3046_3049 := Lib.hid ((hb3049.block wn3035.heap.size LX3046.out).trans BX3046.out)
            have LX3046_3049 := Lib.hid (Nat.lt_of_lt_of_le LX3046.out hb3049.size)
            have hS3049 : Below (w0.heap.size) w0 wn3049 := (hH3047).trans (hb3049.mono (hH3047).size)
            refine hK.out _ _ hS3049 (fun hH3049 => ?_)
            have hH3049 : Below (w0.heap.size) w0 wn3049 := hH3049
            clear hK K hS3049
            try simp only [Act.put, List.setIfInBounds_toArray, List.set_cons_zero, List.set_cons_succ]
            refine wpAnyH_take (i := 22) (oi := { dst := some 31, op := Op.build 28 #[(0, Operand.tmp 11), (1, Operand.tmp 14), (2, Operand.tmp 18), (3, Operand.tmp 22), (4, Operand.tmp 26), (5, Operand.tmp 30)], type := 28, pos := "ref.go:298", after := #[{ on := 2, ground := Ground.data }, { on := 5, ground := Ground.data }, { on := 9, ground := Ground.data }, { on := 13, ground := Ground.data }, { on := 17, ground := Ground.data }, { on := 21, ground := Ground.data }], guard := none }) (v := ?tkv3050) rfl (by kernel_rfl) (by kernel_rfl) (by kernel_rfl) (fun _ _ _ h => h) (Or.inl ⟨by rfl, ?tky3050⟩) hH3049 ?tkr3050
            case tky3050 => (intro w' hSw; clear hSw; go_simp; try with_reducible rfl)
            try simp only [Act.put, List.setIfInBounds_toArray, List.set_cons_zero, List.set_cons_succ]
            refine wpAnyH_ready (rs := [24]) (by kernel_rfl) (by simp) ?_
            refine AllReadyH.cons (o := { dst := none, op := Op.store 28 (Operand.tmp 4) (Operand.tmp 31), type := 0, pos := "ref.go:298", after := #[{ on := 23, ground := Ground.data }, { on := 22, ground := Ground.data }, { on := 21, ground := Ground.chain }, { on := 0, ground := Ground.phase }, { on := 1, ground := Ground.phase }, { on := 2, ground := Ground.phase }, { on := 3, ground := Ground.phase }, { on := 4, ground := Ground.phase }, { on := 5, ground := Ground.phase }, { on := 6, ground := Ground.phase }, { on := 7, ground := Ground.phase }, { on := 8, ground := Ground.phase }, { on := 9, ground := Ground.phase }, { on := 10, ground := Ground.phase }, { on := 11, ground := Ground.phase }, { on := 12, ground := Ground.phase }, { on := 13, ground := Ground.phase }, { on := 14, ground := Ground.phase }, { on := 15, ground := Ground.phase }, { on := 16, ground := Ground.phase }, { on := 17, ground := Ground.phase }, { on := 18, ground := Ground.phase }, { on := 19, ground := Ground.phase }, { on := 20, ground := Ground.phase }, { on := 21, ground := Ground.phase }, { on := 22, ground := Ground.phase }, { on := 23, ground := Ground.phase }], guard := none }) rfl (fun K hK => ?_) AllReadyH.nil
            rw [if_pos (by rfl)]
            rw [HW3.out, HW10.out, HW11.out]
            refine wp_store_row _ _ _ rfl wn3035.heap.size #[.int .u32 (CrcM.number (l.take 4) : Nat), .int .u32 (CrcM.number ((l.drop 4).take 4) : Nat), .int .i64 (CrcM.number ((l.drop 8).take 2) : Nat), .int .i64 (l[10].toNat : Int), .int .i64 (l[11].toNat : Int), .slice Ak3049 32 ck3049] rfl rfl _ _ BX3046_3049.out (by kernel_rfl) (by rfl) (by simp [Value.oneCell']) ?_
            have hS3051 : Below (w0.heap.size) w0 (wn3049.setRow wn3035.heap.size #[.int .u32 (CrcM.number (l.take 4) : Nat), .int .u32 (CrcM.number ((l.drop 4).take 4) : Nat), .int .i64 (CrcM.number ((l.drop 8).take 2) : Nat), .int .i64 (l[10].toNat : Int), .int .i64 (l[11].toNat : Int), .slice Ak3049 32 ck3049]) := (below_setRow2 (hH3049) GE3046.out _)
            refine hK.out _ _ hS3051 (fun hH3051 => ?_)
            have hH3051 : Below (w0.heap.size) w0 (wn3049.setRow wn3035.heap.size #[.int .u32 (CrcM.number (l.take 4) : Nat), .int .u32 (CrcM.number ((l.drop 4).take 4) : Nat), .int .i64 (CrcM.number ((l.drop 8).take 2) : Nat), .int .i64 (l[10].toNat : Int), .int .i64 (l[11].toNat : Int), .slice Ak3049 32 ck3049]) := hH3051
            clear hK K hS3051
            refine wpAnyH_done (by kernel_rfl) ?_ _
            refine NoPanic.normal ?_
            have HBX := Lib.hid (setRow_heap _ _ _ #[.int .u32 (CrcM.number (l.take 4) : Nat), .int .u32 (CrcM.number ((l.drop 4).take 4) : Nat), .int .i64 (CrcM.number ((l.drop 8).take 2) : Nat), .int .i64 (l[10].toNat : Int), .int .i64 (l[11].toNat : Int), .slice Ak3049 32 ck3049] _ _ BX3046_3049.out)
            have HRW := Lib.hid ((RK3049_.out.keep (Nat.le_of_eq (setRow_size _ _ _).symm) fun b hb _ => setRow_other _ _ _ #[.int .u32 (CrcM.number (l.take 4) : Nat), .int .u32 (CrcM.number ((l.drop 4).take 4) : Nat), .int .i64 (CrcM.number ((l.drop 8).take 2) : Nat), .int .i64 (l[10].toNat : Int), .int .i64 (l[11].toNat : Int), .slice Ak3049 32 ck3049] hb.2).imp (P' := fun b => w.heap.size < b) fun b _ hb => hb.1)
            go_wp2_with fail
            go_meet
            exact ⟨_, _, _, rfl, HBX, HRW, Lib.hid (hH3051)⟩
        · go_simp
          have hb3052 : Below wd3000.heap.size wd3000 (wd3000.alloc (.cells #[.int .u32 0, .int .u32 0, .int .i64 0, .int .i64 0, .int .i64 0, .slice none 0 0] 28)) := (Below.refl _ _).alloc (Nat.le_refl _) _
          have BX3052 : Hid ((wd3000.alloc (.cells #[.int .u32 0, .int .u32 0, .int .i64 0, .int .i64 0, .int .i64 0, .slice none 0 0] 28)).heap[wd3000.heap.size]? = some (.cells #[.int .u32 0, .int .u32 0, .int .i64 0, .int .i64 0, .int .i64 0, .slice none 0 0] 28 (0, 0))) := Lib.hid (heap_alloc_new _ _)
          have LX3052 : Hid (wd3000.heap.size < (wd3000.alloc (.cells #[.int .u32 0, .int .u32 0, .int .i64 0, .int .i64 0, .int .i64 0, .slice none 0 0] 28)).heap.size) := Lib.hid (by simp)
          have GE3052 : Hid (w0.heap.size ≤ wd3000.heap.size) := Lib.hid (hH3018).size
          generalize (wd3000.alloc (.cells #[.int .u32 0, .int .u32 0, .int .i64 0, .int .i64 0, .int .i64 0, .slice none 0 0] 28)) = wn3052 at *
          have hS3052 : Below (w0.heap.size) w0 wn3052 := (hH3018).trans (hb3052.mono (hH3018).size)
          refine hK.out _ _ hS3052 (fun hH3052 => ?_)
          have hH3052 : Below (w0.heap.size) w0 wn3052 := hH3052
          clear hK K hS3052
          try simp only [Act.put, List.setIfInBounds_toArray, List.set_cons_zero, List.set_cons_succ]
          refine wpAnyH_ready (rs := [8, 20]) (by kernel_rfl) (by simp) ?_
          refine AllReadyH.cons (o := { dst := some 17, op := Op.call { callee := Callee.value (Operand.func 39), args := #[Operand.tmp 16], argTypes := #[23] }, type := 22, pos := "ref.go:298", after := #[{ on := 7, ground := Ground.data }, { on := 5, ground := Ground.chain }], guard := none }) rfl (fun K hK => ?_) (AllReadyH.cons (o := { dst := some 29, op := Op.buildSlice 69 1 #[(0, Operand.tmp 28)], type := 69, pos := "ref.go:298", after := #[{ on := 19, ground := Ground.data }], guard := none }) rfl (fun K hK => ?_) AllReadyH.nil)
          · go_simp
            refine (r1num_any 2 w0.heap.size _ _ _ wn3052 (HQ3.out wn3052 (hH3052)) (by omega)).mono ?_
            rintro e' _ ⟨rfl, rfl⟩
            go_simp
            have hS3053 : Below (w0.heap.size) w0 wn3052 := hH3052
            refine hK.out _ _ hS3053 (fun hH3053 => ?_)
            have hH3053 : Below (w0.heap.size) w0 wn3052 := hH3053
            clear hK K hS3053
            try simp only [Act.put, List.setIfInBounds_toArray, List.set_cons_zero, List.set_cons_succ]
            refine wpAnyH_take (i := 9) (oi := { dst := some 18, op := Op.convert 22 3 (Operand.tmp 17), type := 3, pos := "ref.go:298", after := #[{ on := 8, ground := Ground.data }], guard := none }) (v := ?tkv3054) rfl (by kernel_rfl) (by kernel_rfl) (by kernel_rfl) (fun _ _ _ h => h) (Or.inl ⟨by rfl, ?tky3054⟩) hH3053 ?tkr3054
            case tky3054 => (intro w' hSw; have z0 := HC.out _ hSw; clear hSw; go_simp; try with_reducible rfl)
            try simp only [Act.put, List.setIfInBounds_toArray, List.set_cons_zero, List.set_cons_succ]
            refine wpAnyH_ready (rs := [20]) (by kernel_rfl) (by simp) ?_
            refine AllReadyH.cons (o := { dst := some 29, op := Op.buildSlice 69 1 #[(0, Operand.tmp 28)], type := 69, pos := "ref.go:298", after := #[{ on := 19, ground := Ground.data }], guard := none }) rfl (fun K hK => ?_) AllReadyH.nil
            go_simp
            have hb3055 : Below wn3052.heap.size wn3052 (wn3052.alloc (.cells #[.slice (some ⟨b, o + 12, none⟩) 32 (c - 12)] 23)) := (Below.refl _ _).alloc (Nat.le_refl _) _
            have BX3055 : Hid ((wn3052.alloc (.cells #[.slice (some ⟨b, o + 12, none⟩) 32 (c - 12)] 23)).heap[wn3052.heap.size]? = some (.cells #[.slice (some ⟨b, o + 12, none⟩) 32 (c - 12)] 23 (0, 0))) := Lib.hid (heap_alloc_new _ _)
            have LX3055 : Hid (wn3052.heap.size < (wn3052.alloc (.cells #[.slice (some ⟨b, o + 12, none⟩) 32 (c - 12)] 23)).heap.size) := Lib.hid (by simp)
            generalize (wn3052.alloc (.cells #[.slice (some ⟨b, o + 12, none⟩) 32 (c - 12)] 23)) = wn3055 at *
            have BX3052_3055 := Lib.hid ((hb3055.block wd3000.heap.size LX3052.out).trans BX3052.out)
            have LX3052_3055 := Lib.hid (Nat.lt_of_lt_of_le LX3052.out hb3055.size)
            have hS3055 : Below (w0.heap.size) w0 wn3055 := (hH3053).trans (hb3055.mono (hH3053).size)
            refine hK.out _ _ hS3055 (fun hH3055 => ?_)
            have hH3055 : Below (w0.heap.size) w0 wn3055 := hH3055
            clear hK K hS3055
            try simp only [Act.put, List.setIfInBounds_toArray, List.set_cons_zero, List.set_cons_succ]
            refine wpAnyH_ready (rs := [21]) (by kernel_rfl) (by simp) ?_
            refine AllReadyH.cons (o := { dst := some 30, op := Op.call { callee := Callee.value (Operand.func 24), args := #[Operand.tmp 29], argTypes := #[69] }, type := 23, pos := "ref.go:298", after := #[{ on := 20, ground := Ground.data }, { on := 8, ground := Ground.chain }], guard := none }) rfl (fun K hK => ?_) AllReadyH.nil
            go_simp
            refine (join_box [⟨some ⟨b, o + 12, none⟩, 32, c - 12, l.drop 12⟩] 1 rfl rfl BX3055.out (by
              intro r hr
              simp only [List.mem_cons, List.not_mem_nil, or_false] at hr
              subst hr
              exact RowP.of_row ((HQ4.out wn3055 (hH3055)).more (hH3055).size)) (by simp) (by have := HL.out; simp [flat]; omega) (l := l.drop 12) (by simp [flat])).mono ?_
            rintro e' wn3056 ⟨Ak3056, nk3056, ck3056, rfl, hn3056, ho3056, hb3056⟩
            have hn23056 := hn3056.out
            rw [HD12.out] at hn23056
            subst hn23056
            have RK3056_ : Hid (RowP wn3056 (fun b => w.heap.size < b ∧ b ≠ wd3000.heap.size) Ak3056 32 (bv (l.drop 12))) := Lib.hid (own_rowQ ho3056 LX3052_3055.out (Nat.lt_of_lt_of_le LW.out (hH3055).size))
            clear ho3056 hn3056
            go_simp
            have BX3052_3056 := Lib.hid ((hb3056.block wd3000.heap.size LX3052_3055.out).trans BX3052_3055.out)
            have LX3052_3056 := Lib.hid (Nat.lt_of_lt_of_le LX3052_3055.out hb3056.size)
            have BX3055_3056 := Lib.hid ((hb3056.block wn3052.heap.size LX3055.out).trans BX3055.out)
            have LX3055_3056 := Lib.hid (Nat.lt_of_lt_of_le LX3055.out hb3056.size)
            have hS3056 : Below (w0.heap.size) w0 wn3056 := (hH3055).trans (hb3056.mono (hH3055).size)
            refine hK.out _ _ hS3056 (fun hH3056 => ?_)
            have hH3056 : Below (w0.heap.size) w0 wn3056 := hH3056
            clear hK K hS3056
            try simp only [Act.put, List.setIfInBounds_toArray, List.set_cons_zero, List.set_cons_succ]
            refine wpAnyH_take (i := 22) (oi := { dst := some 31, op := Op.build 28 #[(0, Operand.tmp 11), (1, Operand.tmp 14), (2, Operand.tmp 18), (3, Operand.tmp 22), (4, Operand.tmp 26), (5, Operand.tmp 30)], type := 28, pos := "ref.go:298", after := #[{ on := 2, ground := Ground.data }, { on := 5, ground := Ground.data }, { on := 9, ground := Ground.data }, { on := 13, ground := Ground.data }, { on := 17, ground := Ground.data }, { on := 21, ground := Ground.data }], guard := none }) (v := ?tkv3057) rfl (by kernel_rfl) (by kernel_rfl) (by kernel_rfl) (fun _ _ _ h => h) (Or.inl ⟨by rfl, ?tky3057⟩) hH3056 ?tkr3057
            case tky3057 => (intro w' hSw; clear hSw; go_simp; try with_reducible rfl)
            try simp only [Act.put, List.setIfInBounds_toArray, List.set_cons_zero, List.set_cons_succ]
            refine wpAnyH_ready (rs := [24]) (by kernel_rfl) (by simp) ?_
            refine AllReadyH.cons (o := { dst := none, op := Op.store 28 (Operand.tmp 4) (Operand.tmp 31), type := 0, pos := "ref.go:298", after := #[{ on := 23, ground := Ground.data }, { on := 22, ground := Ground.data }, { on := 21, ground := Ground.chain }, { on := 0, ground := Ground.phase }, { on := 1, ground := Ground.phase }, { on := 2, ground := Ground.phase }, { on := 3, ground := Ground.phase }, { on := 4, ground := Ground.phase }, { on := 5, ground := Ground.phase }, { on := 6, ground := Ground.phase }, { on := 7, ground := Ground.phase }, { on := 8, ground := Ground.phase }, { on := 9, ground := Ground.phase }, { on := 10, ground := Ground.phase }, { on := 11, ground := Ground.phase }, { on := 12, ground := Ground.phase }, { on := 13, ground := Ground.phase }, { on := 14, ground := Ground.phase }, { on := 15, ground := Ground.phase }, { on := 16, ground := Ground.phase }, { on := 17, ground := Ground.phase }, { on := 18, ground := Ground.phase }, { on := 19, ground := Ground.phase }, { on := 20, ground := Ground.phase }, { on := 21, ground := Ground.phase }, { on := 22, ground := Ground.phase }, { on := 23, ground := Ground.phase }], guard := none }) rfl (fun K hK => ?_) AllReadyH.nil
            rw [if_pos (by rfl)]
            rw [HW3.out, HW10.out, HW11.out]
            refine wp_store_row _ _ _ rfl wd3000.heap.size #[.int .u32 (CrcM.number (l.take 4) : Nat), .int .u32 (CrcM.number ((l.drop 4).take 4) : Nat), .int .i64 (CrcM.number ((l.drop 8).take 2) : Nat), .int .i64 (l[10].toNat : Int), .int .i64 (l[11].toNat : Int), .slice Ak3056 32 ck3056] rfl rfl _ _ BX3052_3056.out (by kernel_rfl) (by rfl) (by simp [Value.oneCell']) ?_
            have hS3058 : Below (w0.heap.size) w0 (wn3056.setRow wd3000.heap.size #[.int .u32 (CrcM.number (l.take 4) : Nat), .int .u32 (CrcM.number ((l.drop 4).take 4) : Nat), .int .i64 (CrcM.number ((l.drop 8).take 2) : Nat), .int .i64 (l[10].toNat : Int), .int .i64 (l[11].toNat : Int), .slice Ak3056 32 ck3056]) := (below_setRow2 (hH3056) GE3052.out _)
            refine hK.out _ _ hS3058 (fun hH3058 => ?_)
            have hH3058 : Below (w0.heap.size) w0 (wn3056.setRow wd3000.heap.size #[.int .u32 (CrcM.number (l.take 4) : Nat), .int .u32 (CrcM.number ((l.drop 4).take 4) : Nat), .int .i64 (CrcM.number ((l.drop 8).take 2) : Nat), .int .i64 (l[10].toNat : Int), .int .i64 (l[11].toNat : Int), .slice Ak3056 32 ck3056]) := hH3058
            clear hK K hS3058
            refine wpAnyH_done (by kernel_rfl) ?_ _
            refine NoPanic.normal ?_
            have HBX := Lib.hid (setRow_heap _ _ _ #[.int .u32 (CrcM.number (l.take 4) : Nat), .int .u32 (CrcM.number ((l.drop 4).take 4) : Nat), .int .i64 (CrcM.number ((l.drop 8).take 2) : Nat), .int .i64 (l[10].toNat : Int), .int .i64 (l[11].toNat : Int), .slice Ak3056 32 ck3056] _ _ BX3052_3056.out)
            have HRW := Lib.hid ((RK3056_.out.keep (Nat.le_of_eq (setRow_size _ _ _).symm) fun b hb _ => setRow_other _ _ _ #[.int .u32 (CrcM.number (l.take 4) : Nat), .int .u32 (CrcM.number ((l.drop 4).take 4) : Nat), .int .i64 (CrcM.number ((l.drop 8).take 2) : Nat), .int .i64 (l[10].toNat : Int), .int .i64 (l[11].toNat : Int), .slice Ak3056 32 ck3056] hb.2).imp (P' := fun b => w.heap.size < b) fun b _ hb => hb.1)
            go_wp2_with fail
            go_meet
            exact ⟨_, _, _, rfl, HBX, HRW, Lib.hid (hH3058)⟩
          · go_simp
            have hb3059 : Below wn3052.heap.size wn3052 (wn3052.alloc (.cells #[.slice (some ⟨b, o + 12, none⟩) 32 (c - 12)] 23)) := (Below.refl _ _).alloc (Nat.le_refl _) _
            have BX3059 : Hid ((wn3052.alloc (.cells #[.slice (some ⟨b, o + 12, none⟩) 32 (c - 12)] 23)).heap[wn3052.heap.size]? = some (.cells #[.slice (some ⟨b, o + 12, none⟩) 32 (c - 12)] 23 (0, 0))) := Lib.hid (heap_alloc_new _ _)
            have LX3059 : Hid (wn3052.heap.size < (wn3052.alloc (.cells #[.slice (some ⟨b, o + 12, none⟩) 32 (c - 12)] 23)).heap.size) := Lib.hid (by simp)
            generalize (wn3052.alloc (.cells #[.slice (some ⟨b, o + 12, none⟩) 32 (c - 12)] 23)) = wn3059 at *
            have BX3052_3059 := Lib.hid ((hb3059.block wd3000.heap.size LX3052.out).trans BX3052.out)
            have LX3052_3059 := Lib.hid (Nat.lt_of_lt_of_le LX3052.out hb3059.size)
            have hS3059 : Below (w0.heap.size) w0 wn3059 := (hH3052).trans (hb3059.mono (hH3052).size)
            refine hK.out _ _ hS3059 (fun hH3059 => ?_)
            have hH3059 : Below (w0.heap.size) w0 wn3059 := hH3059
            clear hK K hS3059
            try simp only [Act.put, List.setIfInBounds_toArray, List.set_cons_zero, List.set_cons_succ]
            refine wpAnyH_ready (rs := [8]) (by kernel_rfl) (by simp) ?_
            refine AllReadyH.cons (o := { dst := some 17, op := Op.call { callee := Callee.value (Operand.func 39), args := #[Operand.tmp 16], argTypes := #[23] }, type := 22, pos := "ref.go:298", after := #[{ on := 7, ground := Ground.data }, { on := 5, ground := Ground.chain }], guard := none }) rfl (fun K hK => ?_) AllReadyH.nil
            go_simp
            refine (r1num_any 2 w0.heap.size _ _ _ wn3059 (HQ3.out wn3059 (hH3059)) (by omega)).mono ?_
            rintro e' _ ⟨rfl, rfl⟩
            go_simp
            have hS3060 : Below (w0.heap.size) w0 wn3059 := hH3059
            refine hK.out _ _ hS3060 (fun hH3060 => ?_)
            have hH3060 : Below (w0.heap.size) w0 wn3059 := hH3060
            clear hK K hS3060
            try simp only [Act.put, List.setIfInBounds_toArray, List.set_cons_zero, List.set_cons_succ]
            refine wpAnyH_take (i := 9) (oi := { dst := some 18, op := Op.convert 22 3 (Operand.tmp 17), type := 3, pos := "ref.go:298", after := #[{ on := 8, ground := Ground.data }], guard := none }) (v := ?tkv3061) rfl (by kernel_rfl) (by kernel_rfl) (by kernel_rfl) (fun _ _ _ h => h) (Or.inl ⟨by rfl, ?tky3061⟩) hH3060 ?tkr3061
            case tky3061 => (intro w' hSw; have z0 := HC.out _ hSw; clear hSw; go_simp; try with_reducible rfl)
            try simp only [Act.put, List.setIfInBounds_toArray, List.set_cons_zero, List.set_cons_succ]
            refine wpAnyH_ready (rs := [21]) (by kernel_rfl) (by simp) ?_
            refine AllReadyH.cons (o := { dst := some 30, op := Op.call { callee := Callee.value (Operand.func 24), args := #[Operand.tmp 29], argTypes := #[69] }, type := 23, pos := "ref.go:298", after := #[{ on := 20, ground := Ground.data }, { on := 8, ground := Ground.chain }], guard := none }) rfl (fun K hK => ?_) AllReadyH.nil
            go_simp
            refine (join_box [⟨some ⟨b, o + 12, none⟩, 32, c - 12, l.drop 12⟩] 1 rfl rfl BX3059.out (by
              intro r hr
              simp only [List.mem_cons, List.not_mem_nil, or_false] at hr
              subst hr
              exact RowP.of_row ((HQ4.out wn3059 (hH3060)).more (hH3060).size)) (by simp) (by have := HL.out; simp [flat]; omega) (l := l.drop 12) (by simp [flat])).mono ?_
            rintro e' wn3062 ⟨Ak3062, nk3062, ck3062, rfl, hn3062, ho3062, hb3062⟩
            have hn23062 := hn3062.out
            rw [HD12.out] at hn23062
            subst hn23062
            have RK3062_ : Hid (RowP wn3062 (fun b => w.heap.size < b ∧ b ≠ wd3000.heap.size) Ak3062 32 (bv (l.drop 12))) := Lib.hid (own_rowQ ho3062 LX3052_3059.out (Nat.lt_of_lt_of_le LW.out (hH3060).size))
            clear ho3062 hn3062
            go_simp
            have BX3052_3062 := Lib.hid ((hb3062.block wd3000.heap.size LX3052_3059.out).trans BX3052_3059.out)
            have LX3052_3062 := Lib.hid (Nat.lt_of_lt_of_le LX3052_3059.out hb3062.size)
            have BX3059_3062 := Lib.hid ((hb3062.block wn3052.heap.size LX3059.out).trans BX3059.out)
            have LX3059_3062 := Lib.hid (Nat.lt_of_lt_of_le LX3059.out hb3062.size)
            have hS3062 : Below (w0.heap.size) w0 wn3062 := (hH3060).trans (hb3062.mono (hH3060).size)
            refine hK.out _ _ hS3062 (fun hH3062 => ?_)
            have hH3062 : Below (w0.heap.size) w0 wn3062 := hH3062
            clear hK K hS3062
            try simp only [Act.put, List.setIfInBounds_toArray, List.set_cons_zero, List.set_cons_succ]
            refine wpAnyH_take (i := 22) (oi := { dst := some 31, op := Op.build 28 #[(0, Operand.tmp 11), (1, Operand.tmp 14), (2, Operand.tmp 18), (3, Operand.tmp 22), (4, Operand.tmp 26), (5, Operand.tmp 30)], type := 28, pos := "ref.go:298", after := #[{ on := 2, ground := Ground.data }, { on := 5, ground := Ground.data }, { on := 9, ground := Ground.data }, { on := 13, ground := Ground.data }, { on := 17, ground := Ground.data }, { on := 21, ground := Ground.data }], guard := none }) (v := ?tkv3063) rfl (by kernel_rfl) (by kernel_rfl) (by kernel_rfl) (fun _ _ _ h => h) (Or.inl ⟨by rfl, ?tky3063⟩) hH3062 ?tkr3063
            case tky3063 => (intro w' hSw; clear hSw; go_simp; try with_reducible rfl)
            try simp only [Act.put, List.setIfInBounds_toArray, List.set_cons_zero, List.set_cons_succ]
            refine wpAnyH_ready (rs := [24]) (by kernel_rfl) (by simp) ?_
            refine AllReadyH.cons (o := { dst := none, op := Op.store 28 (Operand.tmp 4) (Operand.tmp 31), type := 0, pos := "ref.go:298", after := #[{ on := 23, ground := Ground.data }, { on := 22, ground := Ground.data }, { on := 21, ground := Ground.chain }, { on := 0, ground := Ground.phase }, { on := 1, ground := Ground.phase }, { on := 2, ground := Ground.phase }, { on := 3, ground := Ground.phase }, { on := 4, ground := Ground.phase }, { on := 5, ground := Ground.phase }, { on := 6, ground := Ground.phase }, { on := 7, ground := Ground.phase }, { on := 8, ground := Ground.phase }, { on := 9, ground := Ground.phase }, { on := 10, ground := Ground.phase }, { on := 11, ground := Ground.phase }, { on := 12, ground := Ground.phase }, { on := 13, ground := Ground.phase }, { on := 14, ground := Ground.phase }, { on := 15, ground := Ground.phase }, { on := 16, ground := Ground.phase }, { on := 17, ground := Ground.phase }, { on := 18, ground := Ground.phase }, { on := 19, ground := Ground.phase }, { on := 20, ground := Ground.phase }, { on := 21, ground := Ground.phase }, { on := 22, ground := Ground.phase }, { on := 23, ground := Ground.phase }], guard := none }) rfl (fun K hK => ?_) AllReadyH.nil
            rw [if_pos (by rfl)]
            rw [HW3.out, HW10.out, HW11.out]
            refine wp_store_row _ _ _ rfl wd3000.heap.size #[.int .u32 (CrcM.number (l.take 4) : Nat), .int .u32 (CrcM.number ((l.drop 4).take 4) : Nat), .int .i64 (CrcM.number ((l.drop 8).take 2) : Nat), .int .i64 (l[10].toNat : Int), .int .i64 (l[11].toNat : Int), .slice Ak3062 32 ck3062] rfl rfl _ _ BX3052_3062.out (by kernel_rfl) (by rfl) (by simp [Value.oneCell']) ?_
            have hS3064 : Below (w0.heap.size) w0 (wn3062.setRow wd3000.heap.size #[.int .u32 (CrcM.number (l.take 4) : Nat), .int .u32 (CrcM.number ((l.drop 4).take 4) : Nat), .int .i64 (CrcM.number ((l.drop 8).take 2) : Nat), .int .i64 (l[10].toNat : Int), .int .i64 (l[11].toNat : Int), .slice Ak3062 32 ck3062]) := (below_setRow2 (hH3062) GE3052.out _)
            refine hK.out _ _ hS3064 (fun hH3064 => ?_)
            have hH3064 : Below (w0.heap.size) w0 (wn3062.setRow wd3000.heap.size #[.int .u32 (CrcM.number (l.take 4) : Nat), .int .u32 (CrcM.number ((l.drop 4).take 4) : Nat), .int .i64 (CrcM.number ((l.drop 8).take 2) : Nat), .int .i64 (l[10].toNat : Int), .int .i64 (l[11].toNat : Int), .slice Ak3062 32 ck3062]) := hH3064
            clear hK K hS3064
            refine wpAnyH_done (by kernel_rfl) ?_ _
            refine NoPanic.normal ?_
            have HBX := Lib.hid (setRow_heap _ _ _ #[.int .u32 (CrcM.number (l.take 4) : Nat), .int .u32 (CrcM.number ((l.drop 4).take 4) : Nat), .int .i64 (CrcM.number ((l.drop 8).take 2) : Nat), .int .i64 (l[10].toNat : Int), .int .i64 (l[11].toNat : Int), .slice Ak3062 32 ck3062] _ _ BX3052_3062.out)
            have HRW := Lib.hid ((RK3062_.out.keep (Nat.le_of_eq (setRow_size _ _ _).symm) fun b hb _ => setRow_other _ _ _ #[.int .u32 (CrcM.number (l.take 4) : Nat), .int .u32 (CrcM.number ((l.drop 4).take 4) : Nat), .int .i64 (CrcM.number ((l.drop 8).take 2) : Nat), .int .i64 (l[10].toNat : Int), .int .i64 (l[11].toNat : Int), .slice Ak3062 32 ck3062] hb.2).imp (P' := fun b => w.heap.size < b) fun b _ hb => hb.1)
            go_wp2_with fail
            go_meet
            exact ⟨_, _, _, rfl, HBX, HRW, Lib.hid (hH3064)⟩
      · go_simp
        have hb3065 : Below wd3000.heap.size wd3000 (wd3000.alloc (.cells #[.slice (some ⟨b, o + 12, none⟩) 32 (c - 12)] 23)) := (Below.refl _ _).alloc (Nat.le_refl _) _
        have BX3065 : Hid ((wd3000.alloc (.cells #[.slice (some ⟨b, o + 12, none⟩) 32 (c - 12)] 23)).heap[wd3000.heap.size]? = some (.cells #[.slice (some ⟨b, o + 12, none⟩) 32 (c - 12)] 23 (0, 0))) := Lib.hid (heap_alloc_new _ _)
        have LX3065 : Hid (wd3000.heap.size < (wd3000.alloc (.cells #[.slice (some ⟨b, o + 12, none⟩) 32 (c - 12)] 23)).heap.size) := Lib.hid (by simp)
        generalize (wd3000.alloc (.cells #[.slice (some ⟨b, o + 12, none⟩) 32 (c - 12)] 23)) = wn3065 at *
        have hS3065 : Below (w0.heap.size) w0 wn3065 := (hH3017).trans (hb3065.mono (hH3017).size)
        refine hK.out _ _ hS3065 (fun hH3065 => ?_)
        have hH3065 : Below (w0.heap.size) w0 wn3065 := hH3065
        clear hK K hS3065
        try simp only [Act.put, List.setIfInBounds_toArray, List.set_cons_zero, List.set_cons_succ]
        refine wpAnyH_ready (rs := [5, 23]) (by kernel_rfl) (by simp) ?_
        refine AllReadyH.cons (o := { dst := some 14, op := Op.call { callee := Callee.value (Operand.func 39), args := #[Operand.tmp 13], argTypes := #[23] }, type := 22, pos := "ref.go:298", after := #[{ on := 4, ground := Ground.data }, { on := 2, ground := Ground.chain }], guard := none }) rfl (fun K hK => ?_) (AllReadyH.cons (o := { dst := some 4, op := Op.alloc 28, type := 0, pos := "ref.go:298", after := #[], guard := none }) rfl (fun K hK => ?_) AllReadyH.nil)
        · go_simp
          refine (r1num_any 4 w0.heap.size _ _ _ wn3065 (HQ2.out wn3065 (hH3065)) (by omega)).mono ?_
          rintro e' _ ⟨rfl, rfl⟩
          go_simp
          have hS3066 : Below (w0.heap.size) w0 wn3065 := hH3065
          refine hK.out _ _ hS3066 (fun hH3066 => ?_)
          have hH3066 : Below (w0.heap.size) w0 wn3065 := hH3066
          clear hK K hS3066
          try simp only [Act.put, List.setIfInBounds_toArray, List.set_cons_zero, List.set_cons_succ]
          refine wpAnyH_ready (rs := [8, 23]) (by kernel_rfl) (by simp) ?_
          refine AllReadyH.cons (o := { dst := some 17, op := Op.call { callee := Callee.value (Operand.func 39), args := #[Operand.tmp 16], argTypes := #[23] }, type := 22, pos := "ref.go:298", after := #[{ on := 7, ground := Ground.data }, { on := 5, ground := Ground.chain }], guard := none }) rfl (fun K hK => ?_) (AllReadyH.cons (o := { dst := some 4, op := Op.alloc 28, type := 0, pos := "ref.go:298", after := #[], guard := none }) rfl (fun K hK => ?_) AllReadyH.nil)
          · go_simp
            refine (r1num_any 2 w0.heap.size _ _ _ wn3065 (HQ3.out wn3065 (hH3066)) (by omega)).mono ?_
            rintro e' _ ⟨rfl, rfl⟩
            go_simp
            have hS3067 : Below (w0.heap.size) w0 wn3065 := hH3066
            refine hK.out _ _ hS3067 (fun hH3067 => ?_)
            have hH3067 : Below (w0.heap.size) w0 wn3065 := hH3067
            clear hK K hS3067
            try simp only [Act.put, List.setIfInBounds_toArray, List.set_cons_zero, List.set_cons_succ]
            refine wpAnyH_take (i := 9) (oi := { dst := some 18, op := Op.convert 22 3 (Operand.tmp 17), type := 3, pos := "ref.go:298", after := #[{ on := 8, ground := Ground.data }], guard := none }) (v := ?tkv3068) rfl (by kernel_rfl) (by kernel_rfl) (by kernel_rfl) (fun _ _ _ h => h) (Or.inl ⟨by rfl, ?tky3068⟩) hH3067 ?tkr3068
            case tky3068 => (intro w' hSw; have z0 := HC.out _ hSw; clear hSw; go_simp; try with_reducible rfl)
            try simp only [Act.put, List.setIfInBounds_toArray, List.set_cons_zero, List.set_cons_succ]
            refine wpAnyH_ready (rs := [21, 23]) (by kernel_rfl) (by simp) ?_
            refine AllReadyH.cons (o := { dst := some 30, op := Op.call { callee := Callee.value (Operand.func 24), args := #[Operand.tmp 29], argTypes := #[69] }, type := 23, pos := "ref.go:298", after := #[{ on := 20, ground := Ground.data }, { on := 8, ground := Ground.chain }], guard := none }) rfl (fun K hK => ?_) (AllReadyH.cons (o := { dst := some 4, op := Op.alloc 28, type := 0, pos := "ref.go:298", after := #[], guard := none }) rfl (fun K hK => ?_) AllReadyH.nil)
            · go_simp
              refine (join_box [⟨some ⟨b, o + 12, none⟩, 32, c - 12, l.drop 12⟩] 1 rfl rfl BX3065.out (by
                intro r hr
                simp only [List.mem_cons, List.not_mem_nil, or_false] at hr
                subst hr
                exact RowP.of_row ((HQ4.out wn3065 (hH3067)).more (hH3067).size)) (by simp) (by have := HL.out; simp [flat]; omega) (l := l.drop 12) (by simp [flat])).mono ?_
              rintro e' wn3069 ⟨Ak3069, nk3069, ck3069, rfl, hn3069, ho3069, hb3069⟩
              have hn23069 := hn3069.out
              rw [HD12.out] at hn23069
              subst hn23069
              have RK3069_ : Hid (RowP wn3069 (fun b => w.heap.size < b) Ak3069 32 (bv (l.drop 12))) := Lib.hid (own_rowP ho3069 (Nat.lt_of_lt_of_le LW.out (hH3067).size))
              clear ho3069 hn3069
              go_simp
              have BX3065_3069 := Lib.hid ((hb3069.block wd3000.heap.size LX3065.out).trans BX3065.out)
              have LX3065_3069 := Lib.hid (Nat.lt_of_lt_of_le LX3065.out hb3069.size)
              have hS3069 : Below (w0.heap.size) w0 wn3069 := (hH3067).trans (hb3069.mono (hH3067).size)
              refine hK.out _ _ hS3069 (fun hH3069 => ?_)
              have hH3069 : Below (w0.heap.size) w0 wn3069 := hH3069
              clear hK K hS3069
              try simp only [Act.put, List.setIfInBounds_toArray, List.set_cons_zero, List.set_cons_succ]
              refine wpAnyH_take (i := 22) (oi := { dst := some 31, op := Op.build 28 #[(0, Operand.tmp 11), (1, Operand.tmp 14), (2, Operand.tmp 18), (3, Operand.tmp 22), (4, Operand.tmp 26), (5, Operand.tmp 30)], type := 28, pos := "ref.go:298", after := #[{ on := 2, ground := Ground.data }, { on := 5, ground := Ground.data }, { on := 9, ground := Ground.data }, { on := 13, ground := Ground.data }, { on := 17, ground := Ground.data }, { on := 21, ground := Ground.data }], guard := none }) (v := ?tkv3070) rfl (by kernel_rfl) (by kernel_rfl) (by kernel_rfl) (fun _ _ _ h => h) (Or.inl ⟨by rfl, ?tky3070⟩) hH3069 ?tkr3070
              case tky3070 => (intro w' hSw; clear hSw; go_simp; try with_reducible rfl)
              try simp only [Act.put, List.setIfInBounds_toArray, List.set_cons_zero, List.set_cons_succ]
              refine wpAnyH_ready (rs := [23]) (by kernel_rfl) (by simp) ?_
              refine AllReadyH.cons (o := { dst := some 4, op := Op.alloc 28, type := 0, pos := "ref.go:298", after := #[], guard := none }) rfl (fun K hK => ?_) AllReadyH.nil
              go_simp
              have hb3071 : Below wn3069.heap.size wn3069 (wn3069.alloc (.cells #[.int .u32 0, .int .u32 0, .int .i64 0, .int .i64 0, .int .i64 0, .slice none 0 0] 28)) := (Below.refl _ _).alloc (Nat.le_refl _) _
              have BX3071 : Hid ((wn3069.alloc (.cells #[.int .u32 0, .int .u32 0, .int .i64 0, .int .i64 0, .int .i64 0, .slice none 0 0] 28)).heap[wn3069.heap.size]? = some (.cells #[.int .u32 0, .int .u32 0, .int .i64 0, .int .i64 0, .int .i64 0, .slice none 0 0] 28 (0, 0))) := Lib.hid (heap_alloc_new _ _)
              have LX3071 : Hid (wn3069.heap.size < (wn3069.alloc (.cells #[.int .u32 0, .int .u32 0, .int .i64 0, .int .i64 0, .int .i64 0, .slice none 0 0] 28)).heap.size) := Lib.hid (by simp)
              have GE3071 : Hid (w0.heap.size ≤ wn3069.heap.size) := Lib.hid (hH3069).size
              have RQ3071_ := Lib.hid (RK3069_.out.imp (P' := fun b => w.heap.size < b ∧ b ≠ wn3069.heap.size) (fun b hb hp => ⟨hp, Nat.ne_of_lt hb⟩))
              generalize (wn3069.alloc (.cells #[.int .u32 0, .int .u32 0, .int .i64 0, .int .i64 0, .int .i64 0, .slice none 0 0] 28)) = wn3071 at *
              have BX3065_3071 := Lib.hid ((hb3071.block wd3000.heap.size LX3065_3069.out).trans BX3065_3069.out)
              have LX3065_3071 := Lib.hid (Nat.lt_of_lt_of_le LX3065_3069.out hb3071.size)
              have RQ3071_3071 := Lib.hid (RQ3071_.out.below hb3071)
              have hS3071 : Below (w0.heap.size) w0 wn3071 := (hH3069).trans (hb3071.mono (hH3069).size)
              refine hK.out _ _ hS3071 (fun hH3071 => ?_)
              have hH3071 : Below (w0.heap.size) w0 wn3071 := hH3071
              clear hK K hS3071
              try simp only [Act.put, List.setIfInBounds_toArray, List.set_cons_zero, List.set_cons_succ]
              refine wpAnyH_ready (rs := [24]) (by kernel_rfl) (by simp) ?_
              refine AllReadyH.cons (o := { dst := none, op := Op.store 28 (Operand.tmp 4) (Operand.tmp 31), type := 0, pos := "ref.go:298", after := #[{ on := 23, ground := Ground.data }, { on := 22, ground := Ground.data }, { on := 21, ground := Ground.chain }, { on := 0, ground := Ground.phase }, { on := 1, ground := Ground.phase }, { on := 2, ground := Ground.phase }, { on := 3, ground := Ground.phase }, { on := 4, ground := Ground.phase }, { on := 5, ground := Ground.phase }, { on := 6, ground := Ground.phase }, { on := 7, ground := Ground.phase }, { on := 8, ground := Ground.phase }, { on := 9, ground := Ground.phase }, { on := 10, ground := Ground.phase }, { on := 11, ground := Ground.phase }, { on := 12, ground := Ground.phase }, { on := 13, ground := Ground.phase }, { on := 14, ground := Ground.phase }, { on := 15, ground := Ground.phase }, { on := 16, ground := Ground.phase }, { on := 17, ground := Ground.phase }, { on := 18, ground := Ground.phase }, { on := 19, ground := Ground.phase }, { on := 20, ground := Ground.phase }, { on := 21, ground := Ground.phase }, { on := 22, ground := Ground.phase }, { on := 23, ground := Ground.phase }], guard := none }) rfl (fun K hK => ?_) AllReadyH.nil
              rw [if_pos (by rfl)]
              rw [HW3.out, HW10.out, HW11.out]
              refine wp_store_row _ _ _ rfl wn3069.heap.size #[.int .u32 (CrcM.number (l.take 4) : Nat), .int .u32 (CrcM.number ((l.drop 4).take 4) : Nat), .int .i64 (CrcM.number ((l.drop 8).take 2) : Nat), .int .i64 (l[10].toNat : Int), .int .i64 (l[11].toNat : Int), .slice Ak3069 32 ck3069] rfl rfl _ _ BX3071.out (by kernel_rfl) (by rfl) (by simp [Value.oneCell']) ?_
              have hS3072 : Below (w0.heap.size) w0 (wn3071.setRow wn3069.heap.size #[.int .u32 (CrcM.number (l.take 4) : Nat), .int .u32 (CrcM.number ((l.drop 4).take 4) : Nat), .int .i64 (CrcM.number ((l.drop 8).take 2) : Nat), .int .i64 (l[10].toNat : Int), .int .i64 (l[11].toNat : Int), .slice Ak3069 32 ck3069]) := (below_setRow2 (hH3071) GE3071.out _)
              refine hK.out _ _ hS3072 (fun hH3072 => ?_)
              have hH3072 : Below (w0.heap.size) w0 (wn3071.setRow wn3069.heap.size #[.int .u32 (CrcM.number (l.take 4) : Nat), .int .u32 (CrcM.number ((l.drop 4).take 4) : Nat), .int .i64 (CrcM.number ((l.drop 8).take 2) : Nat), .int .i64 (l[10].toNat : Int), .int .i64 (l[11].toNat : Int), .slice Ak3069 32 ck3069]) := hH3072
              clear hK K hS3072
              refine wpAnyH_done (by kernel_rfl) ?_ _
              refine NoPanic.normal ?_
              have HBX := Lib.hid (setRow_heap _ _ _ #[.int .u32 (CrcM.number (l.take 4) : Nat), .int .u32 (CrcM.number ((l.drop 4).take 4) : Nat), .int .i64 (CrcM.number ((l.drop 8).take 2) : Nat), .int .i64 (l[10].toNat : Int), .int .i64 (l[11].toNat : Int), .slice Ak3069 32 ck3069] _ _ BX3071.out)
              have HRW := Lib.hid ((RQ3071_3071.out.keep (Nat.le_of_eq (setRow_size _ _ _).symm) fun b hb _ => setRow_other _ _ _ #[.int .u32 (CrcM.number (l.take 4) : Nat), .int .u32 (CrcM.number ((l.drop 4).take 4) : Nat), .int .i64 (CrcM.number ((l.drop 8).take 2) : Nat), .int .i64 (l[10].toNat : Int), .int .i64 (l[11].toNat : Int), .slice Ak3069 32 ck3069] hb.2).imp (P' := fun b => w.heap.size < b) fun b _ hb => hb.1)
              go_wp2_with fail
              go_meet
              exact ⟨_, _, _, rfl, HBX, HRW, Lib.hid (hH3072)⟩
            · go_simp
              have hb3073 : Below wn3065.heap.size wn3065 (wn3065.alloc (.cells #[.int .u32 0, .int .u32 0, .int .i64 0, .int .i64 0, .int .i64 0, .slice none 0 0] 28)) := (Below.refl _ _).alloc (Nat.le_refl _) _
              have BX3073 : Hid ((wn3065.alloc (.cells #[.int .u32 0, .int .u32 0, .int .i64 0, .int .i64 0, .int .i64 0, .slice none 0 0] 28)).heap[wn3065.heap.size]? = some (.cells #[.int .u32 0, .int .u32 0, .int .i64 0, .int .i64 0, .int .i64 0, .slice none 0 0] 28 (0, 0))) := Lib.hid (heap_alloc_new _ _)
              have LX3073 : Hid (wn3065.heap.size < (wn3065.alloc (.cells #[.int .u32 0, .int .u32 0, .int .i64 0, .int .i64 0, .int .i64 0, .slice none 0 0] 28)).heap.size) := Lib.hid (by simp)
              have GE3073 : Hid (w0.heap.size ≤ wn3065.heap.size) := Lib.hid (hH3067).size
              generalize (wn3065.alloc (.cells #[.int .u32 0, .int .u32 0, .int .i64 0, .int .i64 0, .int .i64 0, .slice none 0 0] 28)) = wn3073 at *
              have BX3065_3073 := Lib.hid ((hb3073.block wd3000.heap.size LX3065.out).trans BX3065.out)
              have LX3065_3073 := Lib.hid (Nat.lt_of_lt_of_le LX3065.out hb3073.size)
              have hS3073 : Below (w0.heap.size) w0 wn3073 := (hH3067).trans (hb3073.mono (hH3067).size)
              refine hK.out _ _ hS3073 (fun hH3073 => ?_)
              have hH3073 : Below (w0.heap.size) w0 wn3073 := hH3073
              clear hK K hS3073
              try simp only [Act.put, List.setIfInBounds_toArray, List.set_cons_zero, List.set_cons_succ]
              refine wpAnyH_ready (rs := [21]) (by kernel_rfl) (by simp) ?_
              refine AllReadyH.cons (o := { dst := some 30, op := Op.call { callee := Callee.value (Operand.func 24), args := #[Operand.tmp 29], argTypes := #[69] }, type := 23, pos := "ref.go:298", after := #[{ on := 20, ground := Ground.data }, { on := 8, ground := Ground.chain }], guard := none }) rfl (fun K hK => ?_) AllReadyH.nil
              go_simp
              refine (join_box [⟨some ⟨b, o + 12, none⟩, 32, c - 12, l.drop 12⟩] 1 rfl rfl BX3065_3073.out (by
                intro r hr
                simp only [List.mem_cons, List.not_mem_nil, or_false] at hr
                subst hr
                exact RowP.of_row ((HQ4.out wn3073 (hH3073)).more (hH3073).size)) (by simp) (by have := HL.out; simp [flat]; omega) (l := l.drop 12) (by simp [flat])).mono ?_
              rintro e' wn3074 ⟨Ak3074, nk3074, ck3074, rfl, hn3074, ho3074, hb3074⟩
              have hn23074 := hn3074.out
              rw [HD12.out] at hn23074
              subst hn23074
              have RK3074_ : Hid (RowP wn3074 (fun b => w.heap.size < b ∧ b ≠ wn3065.heap.size) Ak3074 32 (bv (l.drop 12))) := Lib.hid (own_rowQ ho3074 LX3073.out (Nat.lt_of_lt_of_le LW.out (hH3073).size))
              clear ho3074 hn3074
              go_simp
              have BX3065_3074 := Lib.hid ((hb3074.block wd3000.heap.size LX3065_3073.out).trans BX3065_3073.out)
              have LX3065_3074 := Lib.hid (Nat.lt_of_lt_of_le LX3065_3073.out hb3074.size)
              have BX3073_3074 := Lib.hid ((hb3074.block wn3065.heap.size LX3073.out).trans BX3073.out)
              have LX3073_3074 := Lib.hid (Nat.lt_of_lt_of_le LX3073.out hb3074.size)
              have hS3074 : Below (w0.heap.size) w0 wn3074 := (hH3073).trans (hb3074.mono (hH3073).size)
              refine hK.out _ _ hS3074 (fun hH3074 => ?_)
              have hH3074 : Below (w0.heap.size) w0 wn3074 := hH3074
              clear hK K hS3074
              try simp only [Act.put, List.setIfInBounds_toArray, List.set_cons_zero, List.set_cons_succ]
              refine wpAnyH_take (i := 22) (oi := { dst := some 31, op := Op.build 28 #[(0, Operand.tmp 11), (1, Operand.tmp 14), (2, Operand.tmp 18), (3, Operand.tmp 22), (4, Operand.tmp 26), (5, Operand.tmp 30)], type := 28, pos := "ref.go:298", after := #[{ on := 2, ground := Ground.data }, { on := 5, ground := Ground.data }, { on := 9, ground := Ground.data }, { on := 13, ground := Ground.data }, { on := 17, ground := Ground.data }, { on := 21, ground := Ground.data }], guard := none }) (v := ?tkv3075) rfl (by kernel_rfl) (by kernel_rfl) (by kernel_rfl) (fun _ _ _ h => h) (Or.inl ⟨by rfl, ?tky3075⟩) hH3074 ?tkr3075
              case tky3075 => (intro w' hSw; clear hSw; go_simp; try with_reducible rfl)
              try simp only [Act.put, List.setIfInBounds_toArray, List.set_cons_zero, List.set_cons_succ]
              refine wpAnyH_ready (rs := [24]) (by kernel_rfl) (by simp) ?_
              refine AllReadyH.cons (o := { dst := none, op := Op.store 28 (Operand.tmp 4) (Operand.tmp 31), type := 0, pos := "ref.go:298", after := #[{ on := 23, ground := Ground.data }, { on := 22, ground := Ground.data }, { on := 21, ground := Ground.chain }, { on := 0, ground := Ground.phase }, { on := 1, ground := Ground.phase }, { on := 2, ground := Ground.phase }, { on := 3, ground := Ground.phase }, { on := 4, ground := Ground.phase }, { on := 5, ground := Ground.phase }, { on := 6, ground := Ground.phase }, { on := 7, ground := Ground.phase }, { on := 8, ground := Ground.phase }, { on := 9, ground := Ground.phase }, { on := 10, ground := Ground.phase }, { on := 11, ground := Ground.phase }, { on := 12, ground := Ground.phase }, { on := 13, ground := Ground.phase }, { on := 14, ground := Ground.phase }, { on := 15, ground := Ground.phase }, { on := 16, ground := Ground.phase }, { on := 17, ground := Ground.phase }, { on := 18, ground := Ground.phase }, { on := 19, ground := Ground.phase }, { on := 20, ground := Ground.phase }, { on := 21, ground := Ground.phase }, { on := 22, ground := Ground.phase }, { on := 23, ground := Ground.phase }], guard := none }) rfl (fun K hK => ?_) AllReadyH.nil
              rw [if_pos (by rfl)]
              rw [HW3.out, HW10.out, HW11.out]
              refine wp_store_row _ _ _ rfl wn3065.heap.size #[.int .u32 (CrcM.number (l.take 4) : Nat), .int .u32 (CrcM.number ((l.drop 4).take 4) : Nat), .int .i64 (CrcM.number ((l.drop 8).take 2) : Nat), .int .i64 (l[10].toNat : Int), .int .i64 (l[11].toNat : Int), .slice Ak3074 32 ck3074] rfl rfl _ _ BX3073_3074.out (by kernel_rfl) (by rfl) (by simp [Value.oneCell']) ?_
              have hS3076 : Below (w0.heap.size) w0 (wn3074.setRow wn3065.heap.size #[.int .u32 (CrcM.number (l.take 4) : Nat), .int .u32 (CrcM.number ((l.drop 4).take 4) : Nat), .int .i64 (CrcM.number ((l.drop 8).take 2) : Nat), .int .i64 (l[10].toNat : Int), .int .i64 (l[11].toNat : Int), .slice Ak3074 32 ck3074]) := (below_setRow2 (hH3074) GE3073.out _)
              refine hK.out _ _ hS3076 (fun hH3076 => ?_)
              have hH3076 : Below (w0.heap.size) w0 (wn3074.setRow wn3065.heap.size #[.int .u32 (CrcM.number (l.take 4) : Nat), .int .u32 (CrcM.number ((l.drop 4).take 4) : Nat), .int .i64 (CrcM.number ((l.drop 8).take 2) : Nat), .int .i64 (l[10].toNat : Int), .int .i64 (l[11].toNat : Int), .slice Ak3074 32 ck3074]) := hH3076
              clear hK K hS3076
              refine wpAnyH_done (by kernel_rfl) ?_ _
              refine NoPanic.normal ?_
              have HBX := Lib.hid (setRow_heap _ _ _ #[.int .u32 (CrcM.number (l.take 4) : Nat), .int .u32 (CrcM.number ((l.drop 4).take 4) : Nat), .int .i64 (CrcM.number ((l.drop 8).take 2) : Nat), .int .i64 (l[10].toNat : Int), .int .i64 (l[11].toNat : Int), .slice Ak3074 32 ck3074] _ _ BX3073_3074.out)
              have HRW := Lib.hid ((RK3074_.out.keep (Nat.le_of_eq (setRow_size _ _ _).symm) fun b hb _ => setRow_other _ _ _ #[.int .u32 (CrcM.number (l.take 4) : Nat), .int .u32 (CrcM.number ((l.drop 4).take 4) : Nat), .int .i64 (CrcM.number ((l.drop 8).take 2) : Nat), .int .i64 (l[10].toNat : Int), .int .i64 (l[11].toNat : Int), .slice Ak3074 32 ck3074] hb.2).imp (P' := fun b => w.heap.size < b) fun b _ hb => hb.1)
              go_wp2_with fail
              go_meet
              exact ⟨_, _, _, rfl, HBX, HRW, Lib.hid (hH3076)⟩
          · go_simp
            have hb3077 : Below wn3065.heap.size wn3065 (wn3065.alloc (.cells #[.int .u32 0, .int .u32 0, .int .i64 0, .int .i64 0, .int .i64 0, .slice none 0 0] 28)) := (Below.refl _ _).alloc (Nat.le_refl _) _
            have BX3077 : Hid ((wn3065.alloc (.cells #[.int .u32 0, .int .u32 0, .int .i64 0, .int .i64 0, .int .i64 0, .slice none 0 0] 28)).heap[wn3065.heap.size]? = some (.cells #[.int .u32 0, .int .u32 0, .int .i64 0, .int .i64 0, .int .i64 0, .slice none 0 0] 28 (0, 0))) := Lib.hid (heap_alloc_new _ _)
            have LX3077 : Hid (wn3065.heap.size < (wn3065.alloc (.cells #[.int .u32 0, .int .u32 0, .int .i64 0, .int .i64 0, .int .i64 0, .slice none 0 0] 28)).heap.size) := Lib.hid (by simp)
            have GE3077 : Hid (w0.heap.size ≤ wn3065.heap.size) := Lib.hid (hH3066).size
            generalize (wn3065.alloc (.cells #[.int .u32 0, .int .u32 0, .int .i64 0, .int .i64 0, .int .i64 0, .slice none 0 0] 28)) = wn3077 at *
            have BX3065_3077 := Lib.hid ((hb3077.block wd3000.heap.size LX3065.out).trans BX3065.out)
            have LX3065_3077 := Lib.hid (Nat.lt_of_lt_of_le LX3065.out hb3077.size)
            have hS3077 : Below (w0.heap.size) w0 wn3077 := (hH3066).trans (hb3077.mono (hH3066).size)
            refine hK.out _ _ hS3077 (fun hH3077 => ?_)
            have hH3077 : Below (w0.heap.size) w0 wn3077 := hH3077
            clear hK K hS3077
            try simp only [Act.put, List.setIfInBounds_toArray, List.set_cons_zero, List.set_cons_succ]
            refine wpAnyH_ready (rs := [8]) (by kernel_rfl) (by simp) ?_
            refine AllReadyH.cons (o := { dst := some 17, op := Op.call { callee := Callee.value (Operand.func 39), args := #[Operand.tmp 16], argTypes := #[23] }, type := 22, pos := "ref.go:298", after := #[{ on := 7, ground := Ground.data }, { on := 5, ground := Ground.chain }], guard := none }) rfl (fun K hK => ?_) AllReadyH.nil
            go_simp
            refine (r1num_any 2 w0.heap.size _ _ _ wn3077 (HQ3.out wn3077 (hH3077)) (by omega)).mono ?_
            rintro e' _ ⟨rfl, rfl⟩
            go_simp
            have hS3078 : Below (w0.heap.size) w0 wn3077 := hH3077
            refine hK.out _ _ hS3078 (fun hH3078 => ?_)
            have hH3078 : Below (w0.heap.size) w0 wn3077 := hH3078
            clear hK K hS3078
            try simp only [Act.put, List.setIfInBounds_toArray, List.set_cons_zero, List.set_cons_succ]
            refine wpAnyH_take (i := 9) (oi := { dst := some 18, op := Op.convert 22 3 (Operand.tmp 17), type := 3, pos := "ref.go:298", after := #[{ on := 8, ground := Ground.data }], guard := none }) (v := ?tkv3079) rfl (by kernel_rfl) (by kernel_rfl) (by kernel_rfl) (fun _ _ _ h => h) (Or.inl ⟨by rfl, ?tky3079⟩) hH3078 ?tkr3079
            case tky3079 => (intro w' hSw; have z0 := HC.out _ hSw; clear hSw; go_simp; try with_reducible rfl)
            try simp only [Act.put, List.setIfInBounds_toArray, List.set_cons_zero, List.set_cons_succ]
            refine wpAnyH_ready (rs := [21]) (by kernel_rfl) (by simp) ?_
            refine AllReadyH.cons (o := { dst := some 30, op := Op.call { callee := Callee.value (Operand.func 24), args := #[Operand.tmp 29], argTypes := #[69] }, type := 23, pos := "ref.go:298", after := #[{ on := 20, ground := Ground.data }, { on := 8, ground := Ground.chain }], guard := none }) rfl (fun K hK => ?_) AllReadyH.nil
            go_simp
            refine (join_box [⟨some ⟨b, o + 12, none⟩, 32, c - 12, l.drop 12⟩] 1 rfl rfl BX3065_3077.out (by
              intro r hr
              simp only [List.mem_cons, List.not_mem_nil, or_false] at hr
              subst hr
              exact RowP.of_row ((HQ4.out wn3077 (hH3078)).more (hH3078).size)) (by simp) (by have := HL.out; simp [flat]; omega) (l := l.drop 12) (by simp [flat])).mono ?_
            rintro e' wn3080 ⟨Ak3080, nk3080, ck3080, rfl, hn3080, ho3080, hb3080⟩
            have hn23080 := hn3080.out
            rw [HD12.out] at hn23080
            subst hn23080
            have RK3080_ : Hid (RowP wn3080 (fun b => w.heap.size < b ∧ b ≠ wn3065.heap.size) Ak3080 32 (bv (l.drop 12))) := Lib.hid (own_rowQ ho3080 LX3077.out (Nat.lt_of_lt_of_le LW.out (hH3078).size))
            clear ho3080 hn3080
            go_simp
            have BX3065_3080 := Lib.hid ((hb3080.block wd3000.heap.size LX3065_3077.out).trans BX3065_3077.out)
            have LX3065_3080 := Lib.hid (Nat.lt_of_lt_of_le LX3065_3077.out hb3080.size)
            have BX3077_3080 := Lib.hid ((hb3080.block wn3065.heap.size LX3077.out).trans BX3077.out)
            have LX3077_3080 := Lib.hid (Nat.lt_of_lt_of_le LX3077.out hb3080.size)
            have hS3080 : Below (w0.heap.size) w0 wn3080 := (hH3078).trans (hb3080.mono (hH3078).size)
            refine hK.out _ _ hS3080 (fun hH3080 => ?_)
            have hH3080 : Below (w0.heap.size) w0 wn3080 := hH3080
            clear hK K hS3080
            try simp only [Act.put, List.setIfInBounds_toArray, List.set_cons_zero, List.set_cons_succ]
            refine wpAnyH_take (i := 22) (oi := { dst := some 31, op := Op.build 28 #[(0, Operand.tmp 11), (1, Operand.tmp 14), (2, Operand.tmp 18), (3, Operand.tmp 22), (4, Operand.tmp 26), (5, Operand.tmp 30)], type := 28, pos := "ref.go:298", after := #[{ on := 2, ground := Ground.data }, { on := 5, ground := Ground.data }, { on := 9, ground := Ground.data }, { on := 13, ground := Ground.data }, { on := 17, ground := Ground.data }, { on := 21, ground := Ground.data }], guard := none }) (v := ?tkv3081) rfl (by kernel_rfl) (by kernel_rfl) (by kernel_rfl) (fun _ _ _ h => h) (Or.inl ⟨by rfl, ?tky3081⟩) hH3080 ?tkr3081
            case tky3081 => (intro w' hSw; clear hSw; go_simp; try with_reducible rfl)
            try simp only [Act.put, List.setIfInBounds_toArray, List.set_cons_zero, List.set_cons_succ]
            refine wpAnyH_ready (rs := [24]) (by kernel_rfl) (by simp) ?_
            refine AllReadyH.cons (o := { dst := none, op := Op.store 28 (Operand.tmp 4) (Operand.tmp 31), type := 0, pos := "ref.go:298", after := #[{ on := 23, ground := Ground.data }, { on := 22, ground := Ground.data }, { on := 21, ground := Ground.chain }, { on := 0, ground := Ground.phase }, { on := 1, ground := Ground.phase }, { on := 2, ground := Ground.phase }, { on := 3, ground := Ground.phase }, { on := 4, ground := Ground.phase }, { on := 5, ground := Ground.phase }, { on := 6, ground := Ground.phase }, { on := 7, ground := Ground.phase }, { on := 8, ground := Ground.phase }, { on := 9, ground := Ground.phase }, { on := 10, ground := Ground.phase }, { on := 11, ground := Ground.phase }, { on := 12, ground := Ground.phase }, { on := 13, ground := Ground.phase }, { on := 14, ground := Ground.phase }, { on := 15, ground := Ground.phase }, { on := 16, ground := Ground.phase }, { on := 17, ground := Ground.phase }, { on := 18, ground := Ground.phase }, { on := 19, ground := Ground.phase }, { on := 20, ground := Ground.phase }, { on := 21, ground := Ground.phase }, { on := 22, ground := Ground.phase }, { on := 23, ground := Ground.phase }], guard := none }) rfl (fun K hK => ?_) AllReadyH.nil
            rw [if_pos (by rfl)]
            rw [HW3.out, HW10.out, HW11.out]
            refine wp_store_row _ _ _ rfl wn3065.heap.size #[.int .u32 (CrcM.number (l.take 4) : Nat), .int .u32 (CrcM.number ((l.drop 4).take 4) : Nat), .int .i64 (CrcM.number ((l.drop 8).take 2) : Nat), .int .i64 (l[10].toNat : Int), .int .i64 (l[11].toNat : Int), .slice Ak3080 32 ck3080] rfl rfl _ _ BX3077_3080.out (by kernel_rfl) (by rfl) (by simp [Value.oneCell']) ?_
            have hS3082 : Below (w0.heap.size) w0 (wn3080.setRow wn3065.heap.size #[.int .u32 (CrcM.number (l.take 4) : Nat), .int .u32 (CrcM.number ((l.drop 4).take 4) : Nat), .int .i64 (CrcM.number ((l.drop 8).take 2) : Nat), .int .i64 (l[10].toNat : Int), .int .i64 (l[11].toNat : Int), .slice Ak3080 32 ck3080]) := (below_setRow2 (hH3080) GE3077.out _)
            refine hK.out _ _ hS3082 (fun hH3082 => ?_)
            have hH3082 : Below (w0.heap.size) w0 (wn3080.setRow wn3065.heap.size #[.int .u32 (CrcM.number (l.take 4) : Nat), .int .u32 (CrcM.number ((l.drop 4).take 4) : Nat), .int .i64 (CrcM.number ((l.drop 8).take 2) : Nat), .int .i64 (l[10].toNat : Int), .int .i64 (l[11].toNat : Int), .slice Ak3080 32 ck3080]) := hH3082
            clear hK K hS3082
            refine wpAnyH_done (by kernel_rfl) ?_ _
            refine NoPanic.normal ?_
            have HBX := Lib.hid (setRow_heap _ _ _ #[.int .u32 (CrcM.number (l.take 4) : Nat), .int .u32 (CrcM.number ((l.drop 4).take 4) : Nat), .int .i64 (CrcM.number ((l.drop 8).take 2) : Nat), .int .i64 (l[10].toNat : Int), .int .i64 (l[11].toNat : Int), .slice Ak3080 32 ck3080] _ _ BX3077_3080.out)
            have HRW := Lib.hid ((RK3080_.out.keep (Nat.le_of_eq (setRow_size _ _ _).symm) fun b hb _ => setRow_other _ _ _ #[.int .u32 (CrcM.number (l.take 4) : Nat), .int .u32 (CrcM.number ((l.drop 4).take 4) : Nat), .int .i64 (CrcM.number ((l.drop 8).take 2) : Nat), .int .i64 (l[10].toNat : Int), .int .i64 (l[11].toNat : Int), .slice Ak3080 32 ck3080] hb.2).imp (P' := fun b => w.heap.size < b) fun b _ hb => hb.1)
            go_wp2_with fail
            go_meet
            exact ⟨_, _, _, rfl, HBX, HRW, Lib.hid (hH3082)⟩
        · go_simp
          have hb3083 : Below wn3065.heap.size wn3065 (wn3065.alloc (.cells #[.int .u32 0, .int .u32 0, .int .i64 0, .int .i64 0, .int .i64 0, .slice none 0 0] 28)) := (Below.refl _ _).alloc (Nat.le_refl _) _
          have BX3083 : Hid ((wn3065.alloc (.cells #[.int .u32 0, .int .u32 0, .int .i64 0, .int .i64 0, .int .i64 0, .slice none 0 0] 28)).heap[wn3065.heap.size]? = some (.cells #[.int .u32 0, .int .u32 0, .int .i64 0, .int .i64 0, .int .i64 0, .slice none 0 0] 28 (0, 0))) := Lib.hid (heap_alloc_new _ _)
          have LX3083 : Hid (wn3065.heap.size < (wn3065.alloc (.cells #[.int .u32 0, .int .u32 0, .int .i64 0, .int .i64 0, .int .i64 0, .slice none 0 0] 28)).heap.size) := Lib.hid (by simp)
          have GE3083 : Hid (w0.heap.size ≤ wn3065.heap.size) := Lib.hid (hH3065).size
          generalize (wn3065.alloc (.cells #[.int .u32 0, .int .u32 0, .int .i64 0, .int .i64 0, .int .i64 0, .slice none 0 0] 28)) = wn3083 at *
          have BX3065_3083 := Lib.hid ((hb3083.block wd3000.heap.size LX3065.out).trans BX3065.out)
          have LX3065_3083 := Lib.hid (Nat.lt_of_lt_of_le LX3065.out hb3083.size)
          have hS3083 : Below (w0.heap.size) w0 wn3083 := (hH3065).trans (hb3083.mono (hH3065).size)
          refine hK.out _ _ hS3083 (fun hH3083 => ?_)
          have hH3083 : Below (w0.heap.size) w0 wn3083 := hH3083
          clear hK K hS3083
          try simp only [Act.put, List.setIfInBounds_toArray, List.set_cons_zero, List.set_cons_succ]
          refine wpAnyH_ready (rs := [5]) (by kernel_rfl) (by simp) ?_
          refine AllReadyH.cons (o := { dst := some 14, op := Op.call { callee := Callee.value (Operand.func 39), args := #[Operand.tmp 13], argTypes := #[23] }, type := 22, pos := "ref.go:298", after := #[{ on := 4, ground := Ground.data }, { on := 2, ground := Ground.chain }], guard := none }) rfl (fun K hK => ?_) AllReadyH.nil
          go_simp
          refine (r1num_any 4 w0.heap.size _ _ _ wn3083 (HQ2.out wn3083 (hH3083)) (by omega)).mono ?_
          rintro e' _ ⟨rfl, rfl⟩
          go_simp
          have hS3084 : Below (w0.heap.size) w0 wn3083 := hH3083
          refine hK.out _ _ hS3084 (fun hH3084 => ?_)
          have hH3084 : Below (w0.heap.size) w0 wn3083 := hH3084
          clear hK K hS3084
          try simp only [Act.put, List.setIfInBounds_toArray, List.set_cons_zero, List.set_cons_succ]
          refine wpAnyH_ready (rs := [8]) (by kernel_rfl) (by simp) ?_
          refine AllReadyH.cons (o := { dst := some 17, op := Op.call { callee := Callee.value (Operand.func 39), args := #[Operand.tmp 16], argTypes := #[23] }, type := 22, pos := "ref.go:298", after := #[{ on := 7, ground := Ground.data }, { on := 5, ground := Ground.chain }], guard := none }) rfl (fun K hK => ?_) AllReadyH.nil
          go_simp
          refine (r1num_any 2 w0.heap.size _ _ _ wn3083 (HQ3.out wn3083 (hH3084)) (by omega)).mono ?_
          rintro e' _ ⟨rfl, rfl⟩
          go_simp
          have hS3085 : Below (w0.heap.size) w0 wn3083 := hH3084
          refine hK.out _ _ hS3085 (fun hH3085 => ?_)
          have hH3085 : Below (w0.heap.size) w0 wn3083 := hH3085
          clear hK K hS3085
          try simp only [Act.put, List.setIfInBounds_toArray, List.set_cons_zero, List.set_cons_succ]
          refine wpAnyH_take (i := 9) (oi := { dst := some 18, op := Op.convert 22 3 (Operand.tmp 17), type := 3, pos := "ref.go:298", after := #[{ on := 8, ground := Ground.data }], guard := none }) (v := ?tkv3086) rfl (by kernel_rfl) (by kernel_rfl) (by kernel_rfl) (fun _ _ _ h => h) (Or.inl ⟨by rfl, ?tky3086⟩) hH3085 ?tkr3086
          case tky3086 => (intro w' hSw; have z0 := HC.out _ hSw; clear hSw; go_simp; try with_reducible rfl)
          try simp only [Act.put, List.setIfInBounds_toArray, List.set_cons_zero, List.set_cons_succ]
          refine wpAnyH_ready (rs := [21]) (by kernel_rfl) (by simp) ?_
          refine AllReadyH.cons (o := { dst := some 30, op := Op.call { callee := Callee.value (Operand.func 24), args := #[Operand.tmp 29], argTypes := #[69] }, type := 23, pos := "ref.go:298", after := #[{ on := 20, ground := Ground.data }, { on := 8, ground := Ground.chain }], guard := none }) rfl (fun K hK => ?_) AllReadyH.nil
          go_simp
          refine (join_box [⟨some ⟨b, o + 12, none⟩, 32, c - 12, l.drop 12⟩] 1 rfl rfl BX3065_3083.out (by
            intro r hr
            simp only [List.mem_cons, List.not_mem_nil, or_false] at hr
            subst hr
            exact RowP.of_row ((HQ4.out wn3083 (hH3085)).more (hH3085).size)) (by simp) (by have := HL.out; simp [flat]; omega) (l := l.drop 12) (by simp [flat])).mono ?_
          rintro e' wn3087 ⟨Ak3087, nk3087, ck3087, rfl, hn3087, ho3087, hb3087⟩
          have hn23087 := hn3087.out
          rw [HD12.out] at hn23087
          subst hn23087
          have RK3087_ : Hid (RowP wn3087 (fun b => w.heap.size < b ∧ b ≠ wn3065.heap.size) Ak3087 32 (bv (l.drop 12))) := Lib.hid (own_rowQ ho3087 LX3083.out (Nat.lt_of_lt_of_le LW.out (hH3085).size))
          clear ho3087 hn3087
          go_simp
          have BX3065_3087 := Lib.hid ((hb3087.block wd3000.heap.size LX3065_3083.out).trans BX3065_3083.out)
          have LX3065_3087 := Lib.hid (Nat.lt_of_lt_of_le LX3065_3083.out hb3087.size)
          have BX3083_3087 := Lib.hid ((hb3087.block wn3065.heap.size LX3083.out).trans BX3083.out)
          have LX3083_3087 := Lib.hid (Nat.lt_of_lt_of_le LX3083.out hb3087.size)
          have hS3087 : Below (w0.heap.size) w0 wn3087 := (hH3085).trans (hb3087.mono (hH3085).size)
          refine hK.out _ _ hS3087 (fun hH3087 => ?_)
          have hH3087 : Below (w0.heap.size) w0 wn3087 := hH3087
          clear hK K hS3087
          try simp only [Act.put, List.setIfInBounds_toArray, List.set_cons_zero, List.set_cons_succ]
          refine wpAnyH_take (i := 22) (oi := { dst := some 31, op := Op.build 28 #[(0, Operand.tmp 11), (1, Operand.tmp 14), (2, Operand.tmp 18), (3, Operand.tmp 22), (4, Operand.tmp 26), (5, Operand.tmp 30)], type := 28, pos := "ref.go:298", after := #[{ on := 2, ground := Ground.data }, { on := 5, ground := Ground.data }, { on := 9, ground := Ground.data }, { on := 13, ground := Ground.data }, { on := 17, ground := Ground.data }, { on := 21, ground := Ground.data }], guard := none }) (v := ?tkv3088) rfl (by kernel_rfl) (by kernel_rfl) (by kernel_rfl) (fun _ _ _ h => h) (Or.inl ⟨by rfl, ?tky3088⟩) hH3087 ?tkr3088
          case tky3088 => (intro w' hSw; clear hSw; go_simp; try with_reducible rfl)
          try simp only [Act.put, List.setIfInBounds_toArray, List.set_cons_zero, List.set_cons_succ]
          refine wpAnyH_ready (rs := [24]) (by kernel_rfl) (by simp) ?_
          refine AllReadyH.cons (o := { dst := none, op := Op.store 28 (Operand.tmp 4) (Operand.tmp 31), type := 0, pos := "ref.go:298", after := #[{ on := 23, ground := Ground.data }, { on := 22, ground := Ground.data }, { on := 21, ground := Ground.chain }, { on := 0, ground := Ground.phase }, { on := 1, ground := Ground.phase }, { on := 2, ground := Ground.phase }, { on := 3, ground := Ground.phase }, { on := 4, ground := Ground.phase }, { on := 5, ground := Ground.phase }, { on := 6, ground := Ground.phase }, { on := 7, ground := Ground.phase }, { on := 8, ground := Ground.phase }, { on := 9, ground := Ground.phase }, { on := 10, ground := Ground.phase }, { on := 11, ground := Ground.phase }, { on := 12, ground := Ground.phase }, { on := 13, ground := Ground.phase }, { on := 14, ground := Ground.phase }, { on := 15, ground := Ground.phase }, { on := 16, ground := Ground.phase }, { on := 17, ground := Ground.phase }, { on := 18, ground := Ground.phase }, { on := 19, ground := Ground.phase }, { on := 20, ground := Ground.phase }, { on := 21, ground := Ground.phase }, { on := 22, ground := Ground.phase }, { on := 23, ground := Ground.phase }], guard := none }) rfl (fun K hK => ?_) AllReadyH.nil
          rw [if_pos (by rfl)]
          rw [HW3.out, HW10.out, HW11.out]
          refine wp_store_row _ _ _ rfl wn3065.heap.size #[.int .u32 (CrcM.number (l.take 4) : Nat), .int .u32 (CrcM.number ((l.drop 4).take 4) : Nat), .int .i64 (CrcM.number ((l.drop 8).take 2) : Nat), .int .i64 (l[10].toNat : Int), .int .i64 (l[11].toNat : Int), .slice Ak3087 32 ck3087] rfl rfl _ _ BX3083_3087.out (by kernel_rfl) (by rfl) (by simp [Value.oneCell']) ?_
          have hS3089 : Below (w0.heap.size) w0 (wn3087.setRow wn3065.heap.size #[.int .u32 (CrcM.number (l.take 4) : Nat), .int .u32 (CrcM.number ((l.drop 4).take 4) : Nat), .int .i64 (CrcM.number ((l.drop 8).take 2) : Nat), .int .i64 (l[10].toNat : Int), .int .i64 (l[11].toNat : Int), .slice Ak3087 32 ck3087]) := (below_setRow2 (hH3087) GE3083.out _)
          refine hK.out _ _ hS3089 (fun hH3089 => ?_)
          have hH3089 : Below (w0.heap.size) w0 (wn3087.setRow wn3065.heap.size #[.int .u32 (CrcM.number (l.take 4) : Nat), .int .u32 (CrcM.number ((l.drop 4).take 4) : Nat), .int .i64 (CrcM.number ((l.drop 8).take 2) : Nat), .int .i64 (l[10].toNat : Int), .int .i64 (l[11].toNat : Int), .slice Ak3087 32 ck3087]) := hH3089
          clear hK K hS3089
          refine wpAnyH_done (by kernel_rfl) ?_ _
          refine NoPanic.normal ?_
          have HBX := Lib.hid (setRow_heap _ _ _ #[.int .u32 (CrcM.number (l.take 4) : Nat), .int .u32 (CrcM.number ((l.drop 4).take 4) : Nat), .int .i64 (CrcM.number ((l.drop 8).take 2) : Nat), .int .i64 (l[10].toNat : Int), .int .i64 (l[11].toNat : Int), .slice Ak3087 32 ck3087] _ _ BX3083_3087.out)
          have HRW := Lib.hid ((RK3087_.out.keep (Nat.le_of_eq (setRow_size _ _ _).symm) fun b hb _ => setRow_other _ _ _ #[.int .u32 (CrcM.number (l.take 4) : Nat), .int .u32 (CrcM.number ((l.drop 4).take 4) : Nat), .int .i64 (CrcM.number ((l.drop 8).take 2) : Nat), .int .i64 (l[10].toNat : Int), .int .i64 (l[11].toNat : Int), .slice Ak3087 32 ck3087] hb.2).imp (P' := fun b => w.heap.size < b) fun b _ hb => hb.1)
          go_wp2_with fail
          go_meet
          exact ⟨_, _, _, rfl, HBX, HRW, Lib.hid (hH3089)⟩
      · go_simp
        have hb3090 : Below wd3000.heap.size wd3000 (wd3000.alloc (.cells #[.int .u32 0, .int .u32 0, .int .i64 0, .int .i64 0, .int .i64 0, .slice none 0 0] 28)) := (Below.refl _ _).alloc (Nat.le_refl _) _
        have BX3090 : Hid ((wd3000.alloc (.cells #[.int .u32 0, .int .u32 0, .int .i64 0, .int .i64 0, .int .i64 0, .slice none 0 0] 28)).heap[wd3000.heap.size]? = some (.cells #[.int .u32 0, .int .u32 0, .int .i64 0, .int .i64 0, .int .i64 0, .slice none 0 0] 28 (0, 0))) := Lib.hid (heap_alloc_new _ _)
        have LX3090 : Hid (wd3000.heap.size < (wd3000.alloc (.cells #[.int .u32 0, .int .u32 0, .int .i64 0, .int .i64 0, .int .i64 0, .slice none 0 0] 28)).heap.size) := Lib.hid (by simp)
        have GE3090 : Hid (w0.heap.size ≤ wd3000.heap.size) := Lib.hid (hH3017).size
        generalize (wd3000.alloc (.cells #[.int .u32 0, .int .u32 0, .int .i64 0, .int .i64 0, .int .i64 0, .slice none 0 0] 28)) = wn3090 at *
        have hS3090 : Below (w0.heap.size) w0 wn3090 := (hH3017).trans (hb3090.mono (hH3017).size)
        refine hK.out _ _ hS3090 (fun hH3090 => ?_)
        have hH3090 : Below (w0.heap.size) w0 wn3090 := hH3090
        clear hK K hS3090
        try simp only [Act.put, List.setIfInBounds_toArray, List.set_cons_zero, List.set_cons_succ]
        refine wpAnyH_ready (rs := [5, 20]) (by kernel_rfl) (by simp) ?_
        refine AllReadyH.cons (o := { dst := some 14, op := Op.call { callee := Callee.value (Operand.func 39), args := #[Operand.tmp 13], argTypes := #[23] }, type := 22, pos := "ref.go:298", after := #[{ on := 4, ground := Ground.data }, { on := 2, ground := Ground.chain }], guard := none }) rfl (fun K hK => ?_) (AllReadyH.cons (o := { dst := some 29, op := Op.buildSlice 69 1 #[(0, Operand.tmp 28)], type := 69, pos := "ref.go:298", after := #[{ on := 19, ground := Ground.data }], guard := none }) rfl (fun K hK => ?_) AllReadyH.nil)
        · go_simp
          refine (r1num_any 4 w0.heap.size _ _ _ wn3090 (HQ2.out wn3090 (hH3090)) (by omega)).mono ?_
          rintro e' _ ⟨rfl, rfl⟩
          go_simp
          have hS3091 : Below (w0.heap.size) w0 wn3090 := hH3090
          refine hK.out _ _ hS3091 (fun hH3091 => ?_)
          have hH3091 : Below (w0.heap.size) w0 wn3090 := hH3091
          clear hK K hS3091
          try simp only [Act.put, List.setIfInBounds_toArray, List.set_cons_zero, List.set_cons_succ]
          refine wpAnyH_ready (rs := [8, 20]) (by kernel_rfl) (by simp) ?_
          refine AllReadyH.cons (o := { dst := some 17, op := Op.call { callee := Callee.value (Operand.func 39), args := #[Operand.tmp 16], argTypes := #[23] }, type := 22, pos := "ref.go:298", after := #[{ on := 7, ground := Ground.data }, { on := 5, ground := Ground.chain }], guard := none }) rfl (fun K hK => ?_) (AllReadyH.cons (o := { dst := some 29, op := Op.buildSlice 69 1 #[(0, Operand.tmp 28)], type := 69, pos := "ref.go:298", after := #[{ on := 19, ground := Ground.data }], guard := none }) rfl (fun K hK => ?_) AllReadyH.nil)
          · go_simp
            refine (r1num_any 2 w0.heap.size _ _ _ wn3090 (HQ3.out wn3090 (hH3091)) (by omega)).mono ?_
            rintro e' _ ⟨rfl, rfl⟩
            go_simp
            have hS3092 : Below (w0.heap.size) w0 wn3090 := hH3091
            refine hK.out _ _ hS3092 (fun hH3092 => ?_)
            have hH3092 : Below (w0.heap.size) w0 wn3090 := hH3092
            clear hK K hS3092
            try simp only [Act.put, List.setIfInBounds_toArray, List.set_cons_zero, List.set_cons_succ]
            refine wpAnyH_take (i := 9) (oi := { dst := some 18, op := Op.convert 22 3 (Operand.tmp 17), type := 3, pos := "ref.go:298", after := #[{ on := 8, ground := Ground.data }], guard := none }) (v := ?tkv3093) rfl (by kernel_rfl) (by kernel_rfl) (by kernel_rfl) (fun _ _ _ h => h) (Or.inl ⟨by rfl, ?tky3093⟩) hH3092 ?tkr3093
            case tky3093 => (intro w' hSw; have z0 := HC.out _ hSw; clear hSw; go_simp; try with_reducible rfl)
            try simp only [Act.put, List.setIfInBounds_toArray, List.set_cons_zero, List.set_cons_succ]
            refine wpAnyH_ready (rs := [20]) (by kernel_rfl) (by simp) ?_
            refine AllReadyH.cons (o := { dst := some 29, op := Op.buildSlice 69 1 #[(0, Operand.tmp 28)], type := 69, pos := "ref.go:298", after := #[{ on := 19, ground := Ground.data }], guard := none }) rfl (fun K hK => ?_) AllReadyH.nil
            go_simp
            have hb3094 : Below wn3090.heap.size wn3090 (wn3090.alloc (.cells #[.slice (some ⟨b, o + 12, none⟩) 32 (c - 12)] 23)) := (Below.refl _ _).alloc (Nat.le_refl _) _
            have BX3094 : Hid ((wn3090.alloc (.cells #[.slice (some ⟨b, o + 12, none⟩) 32 (c - 12)] 23)).heap[wn3090.heap.size]? = some (.cells #[.slice (some ⟨b, o + 12, none⟩) 32 (c - 12)] 23 (0, 0))) := Lib.hid (heap_alloc_new _ _)
            have LX3094 : Hid (wn3090.heap.size < (wn3090.alloc (.cells #[.slice (some ⟨b, o + 12, none⟩) 32 (c - 12)] 23)).heap.size) := Lib.hid (by simp)
            generalize (wn3090.alloc (.cells #[.slice (some ⟨b, o + 12, none⟩) 32 (c - 12)] 23)) = wn3094 at *
            have BX3090_3094 := Lib.hid ((hb3094.block wd3000.heap.size LX3090.out).trans BX3090.out)
            have LX3090_3094 := Lib.hid (Nat.lt_of_lt_of_le LX3090.out hb3094.size)
            have hS3094 : Below (w0.heap.size) w0 wn3094 := (hH3092).trans (hb3094.mono (hH3092).size)
            refine hK.out _ _ hS3094 (fun hH3094 => ?_)
            have hH3094 : Below (w0.heap.size) w0 wn3094 := hH3094
            clear hK K hS3094
            try simp only [Act.put, List.setIfInBounds_toArray, List.set_cons_zero, List.set_cons_succ]
            refine wpAnyH_ready (rs := [21]) (by kernel_rfl) (by simp) ?_
            refine AllReadyH.cons (o := { dst := some 30, op := Op.call { callee := Callee.value (Operand.func 24), args := #[Operand.tmp 29], argTypes := #[69] }, type := 23, pos := "ref.go:298", after := #[{ on := 20, ground := Ground.data }, { on := 8, ground := Ground.chain }], guard := none }) rfl (fun K hK => ?_) AllReadyH.nil
            go_simp
            refine (join_box [⟨some ⟨b, o + 12, none⟩, 32, c - 12, l.drop 12⟩] 1 rfl rfl BX3094.out (by
              intro r hr
              simp only [List.mem_cons, List.not_mem_nil, or_false] at hr
              subst hr
              exact RowP.of_row ((HQ4.out wn3094 (hH3094)).more (hH3094).size)) (by simp) (by have := HL.out; simp [flat]; omega) (l := l.drop 12) (by simp [flat])).mono ?_
            rintro e' wn3095 ⟨Ak3095, nk3095, ck3095, rfl, hn3095, ho3095, hb3095⟩
            have hn23095 := hn3095.out
            rw [HD12.out] at hn23095
            subst hn23095
            have RK3095_ : Hid (RowP wn3095 (fun b => w.heap.size < b ∧ b ≠ wd3000.heap.size) Ak3095 32 (bv (l.drop 12))) := Lib.hid (own_rowQ ho3095 LX3090_3094.out (Nat.lt_of_lt_of_le LW.out (hH3094).size))
            clear ho3095 hn3095
            go_simp
            have BX3090_3095 := Lib.hid ((hb3095.block wd3000.heap.size LX3090_3094.out).trans BX3090_3094.out)
            have LX3090_3095 := Lib.hid (Nat.lt_of_lt_of_le LX3090_3094.out hb3095.size)
            have BX3094_3095 := Lib.hid ((hb3095.block wn3090.heap.size LX3094.out).trans BX3094.out)
            have LX3094_3095 := Lib.hid (Nat.lt_of_lt_of_le LX3094.out hb3095.size)
            have hS3095 : Below (w0.heap.size) w0 wn3095 := (hH3094).trans (hb3095.mono (hH3094).size)
            refine hK.out _ _ hS3095 (fun hH3095 => ?_)
            have hH3095 : Below (w0.heap.size) w0 wn3095 := hH3095
            clear hK K hS3095
            try simp only [Act.put, List.setIfInBounds_toArray, List.set_cons_zero, List.set_cons_succ]
            refine wpAnyH_take (i := 22) (oi := { dst := some 31, op := Op.build 28 #[(0, Operand.tmp 11), (1, Operand.tmp 14), (2, Operand.tmp 18), (3, Operand.tmp 22), (4, Operand.tmp 26), (5, Operand.tmp 30)], type := 28, pos := "ref.go:298", after := #[{ on := 2, ground := Ground.data }, { on := 5, ground := Ground.data }, { on := 9, ground := Ground.data }, { on := 13, ground := Ground.data }, { on := 17, ground := Ground.data }, { on := 21, ground := Ground.data }], guard := none }) (v := ?tkv3096) rfl (by kernel_rfl) (by kernel_rfl) (by kernel_rfl) (fun _ _ _ h => h) (Or.inl ⟨by rfl, ?tky3096⟩) hH3095 ?tkr3096
            case tky3096 => (intro w' hSw; clear hSw; go_simp; try with_reducible rfl)
            try simp only [Act.put, List.setIfInBounds_toArray, List.set_cons_zero, List.set_cons_succ]
            refine wpAnyH_ready (rs := [24]) (by kernel_rfl) (by simp) ?_
            refine AllReadyH.cons (o := { dst := none, op := Op.store 28 (Operand.tmp 4) (Operand.tmp 31), type := 0, pos := "ref.go:298", after := #[{ on := 23, ground := Ground.data }, { on := 22, ground := Ground.data }, { on := 21, ground := Ground.chain }, { on := 0, ground := Ground.phase }, { on := 1, ground := Ground.phase }, { on := 2, ground := Ground.phase }, { on := 3, ground := Ground.phase }, { on := 4, ground := Ground.phase }, { on := 5, ground := Ground.phase }, { on := 6, ground := Ground.phase }, { on := 7, ground := Ground.phase }, { on := 8, ground := Ground.phase }, { on := 9, ground := Ground.phase }, { on := 10, ground := Ground.phase }, { on := 11, ground := Ground.phase }, { on := 12, ground := Ground.phase }, { on := 13, ground := Ground.phase }, { on := 14, ground := Ground.phase }, { on := 15, ground := Ground.phase }, { on := 16, ground := Ground.phase }, { on := 17, ground := Ground.phase }, { on := 18, ground := Ground.phase }, { on := 19, ground := Ground.phase }, { on := 20, ground := Ground.phase }, { on := 21, ground := Ground.phase }, { on := 22, ground := Ground.phase }, { on := 23, ground := Ground.phase }], guard := none }) rfl (fun K hK => ?_) AllReadyH.nil
            rw [if_pos (by rfl)]
            rw [HW3.out, HW10.out, HW11.out]
            refine wp_store_row _ _ _ rfl wd3000.heap.size #[.int .u32 (CrcM.number (l.take 4) : Nat), .int .u32 (CrcM.number ((l.drop 4).take 4) : Nat), .int .i64 (CrcM.number ((l.drop 8).take 2) : Nat), .int .i64 (l[10].toNat : Int), .int .i64 (l[11].toNat : Int), .slice Ak3095 32 ck3095] rfl rfl _ _ BX3090_3095.out (by kernel_rfl) (by rfl) (by simp [Value.oneCell']) ?_
            have hS3097 : Below (w0.heap.size) w0 (wn3095.setRow wd3000.heap.size #[.int .u32 (CrcM.number (l.take 4) : Nat), .int .u32 (CrcM.number ((l.drop 4).take 4) : Nat), .int .i64 (CrcM.number ((l.drop 8).take 2) : Nat), .int .i64 (l[10].toNat : Int), .int .i64 (l[11].toNat : Int), .slice Ak3095 32 ck3095]) := (below_setRow2 (hH3095) GE3090.out _)
            refine hK.out _ _ hS3097 (fun hH3097 => ?_)
            have hH3097 : Below (w0.heap.size) w0 (wn3095.setRow wd3000.heap.size #[.int .u32 (CrcM.number (l.take 4) : Nat), .int .u32 (CrcM.number ((l.drop 4).take 4) : Nat), .int .i64 (CrcM.number ((l.drop 8).take 2) : Nat), .int .i64 (l[10].toNat : Int), .int .i64 (l[11].toNat : Int), .slice Ak3095 32 ck3095]) := hH3097
            clear hK K hS3097
            refine wpAnyH_done (by kernel_rfl) ?_ _
            refine NoPanic.normal ?_
            have HBX := Lib.hid (setRow_heap _ _ _ #[.int .u32 (CrcM.number (l.take 4) : Nat), .int .u32 (CrcM.number ((l.drop 4).take 4) : Nat), .int .i64 (CrcM.number ((l.drop 8).take 2) : Nat), .int .i64 (l[10].toNat : Int), .int .i64 (l[11].toNat : Int), .slice Ak3095 32 ck3095] _ _ BX3090_3095.out)
            have HRW := Lib.hid ((RK3095_.out.keep (Nat.le_of_eq (setRow_size _ _ _).symm) fun b hb _ => setRow_other _ _ _ #[.int .u32 (CrcM.number (l.take 4) : Nat), .int .u32 (CrcM.number ((l.drop 4).take 4) : Nat), .int .i64 (CrcM.number ((l.drop 8).take 2) : Nat), .int .i64 (l[10].toNat : Int), .int .i64 (l[11].toNat : Int), .slice Ak3095 32 ck3095] hb.2).imp (P' := fun b => w.heap.size < b) fun b _ hb => hb.1)
            go_wp2_with fail
            go_meet
            exact ⟨_, _, _, rfl, HBX, HRW, Lib.hid (hH3097)⟩
          · go_simp
            have hb3098 : Below wn3090.heap.size wn3090 (wn3090.alloc (.cells #[.slice (some ⟨b, o + 12, none⟩) 32 (c - 12)] 23)) := (Below.refl _ _).alloc (Nat.le_refl _) _
            have BX3098 : Hid ((wn3090.alloc (.cells #[.slice (some ⟨b, o + 12, none⟩) 32 (c - 12)] 23)).heap[wn3090.heap.size]? = some (.cells #[.slice (some ⟨b, o + 12, none⟩) 32 (c - 12)] 23 (0, 0))) := Lib.hid (heap_alloc_new _ _)
            have LX3098 : Hid (wn3090.heap.size < (wn3090.alloc (.cells #[.slice (some ⟨b, o + 12, none⟩) 32 (c - 12)] 23)).heap.size) := Lib.hid (by simp)
            generalize (wn3090.alloc (.cells #[.slice (some ⟨b, o + 12, none⟩) 32 (c - 12)] 23)) = wn3098 at *
            have BX3090_3098 := Lib.hid ((hb3098.block wd3000.heap.size LX3090.out).trans BX3090.out)
            have LX3090_3098 := Lib.hid (Nat.lt_of_lt_of_le LX3090.out hb3098.size)
            have hS3098 : Below (w0.heap.size) w0 wn3098 := (hH3091).trans (hb3098.mono (hH3091).size)
            refine hK.out _ _ hS3098 (fun hH3098 => ?_)
            have hH3098 : Below (w0.heap.size) w0 wn3098 := hH3098
            clear hK K hS3098
            try simp only [Act.put, List.setIfInBounds_toArray, List.set_cons_zero, List.set_cons_succ]
            refine wpAnyH_ready (rs := [8]) (by kernel_rfl) (by simp) ?_
            refine AllReadyH.cons (o := { dst := some 17, op := Op.call { callee := Callee.value (Operand.func 39), args := #[Operand.tmp 16], argTypes := #[23] }, type := 22, pos := "ref.go:298", after := #[{ on := 7, ground := Ground.data }, { on := 5, ground := Ground.chain }], guard := none }) rfl (fun K hK => ?_) AllReadyH.nil
            go_simp
            refine (r1num_any 2 w0.heap.size _ _ _ wn3098 (HQ3.out wn3098 (hH3098)) (by omega)).mono ?_
            rintro e' _ ⟨rfl, rfl⟩
            go_simp
            have hS3099 : Below (w0.heap.size) w0 wn3098 := hH3098
            refine hK.out _ _ hS3099 (fun hH3099 => ?_)
            have hH3099 : Below (w0.heap.size) w0 wn3098 := hH3099
            clear hK K hS3099
            try simp only [Act.put, List.setIfInBounds_toArray, List.set_cons_zero, List.set_cons_succ]
            refine wpAnyH_take (i := 9) (oi := { dst := some 18, op := Op.convert 22 3 (Operand.tmp 17), type := 3, pos := "ref.go:298", after := #[{ on := 8, ground := Ground.data }], guard := none }) (v := ?tkv3100) rfl (by kernel_rfl) (by kernel_rfl) (by kernel_rfl) (fun _ _ _ h => h) (Or.inl ⟨by rfl, ?tky3100⟩) hH3099 ?tkr3100
            case tky3100 => (intro w' hSw; have z0 := HC.out _ hSw; clear hSw; go_simp; try with_reducible rfl)
            try simp only [Act.put, List.setIfInBounds_toArray, List.set_cons_zero, List.set_cons_succ]
            refine wpAnyH_ready (rs := [21]) (by kernel_rfl) (by simp) ?_
            refine AllReadyH.cons (o := { dst := some 30, op := Op.call { callee := Callee.value (Operand.func 24), args := #[Operand.tmp 29], argTypes := #[69] }, type := 23, pos := "ref.go:298", after := #[{ on := 20, ground := Ground.data }, { on := 8, ground := Ground.chain }], guard := none }) rfl (fun K hK => ?_) AllReadyH.nil
            go_simp
            refine (join_box [⟨some ⟨b, o + 12, none⟩, 32, c - 12, l.drop 12⟩] 1 rfl rfl BX3098.out (by
              intro r hr
              simp only [List.mem_cons, List.not_mem_nil, or_false] at hr
              subst hr
              exact RowP.of_row ((HQ4.out wn3098 (hH3099)).more (hH3099).size)) (by simp) (by have := HL.out; simp [flat]; omega) (l := l.drop 12) (by simp [flat])).mono ?_
            rintro e' wn3101 ⟨Ak3101, nk3101, ck3101, rfl, hn3101, ho3101, hb3101⟩
            have hn23101 := hn3101.out
            rw [HD12.out] at hn23101
            subst hn23101
            have RK3101_ : Hid (RowP wn3101 (fun b => w.heap.size < b ∧ b ≠ wd3000.heap.size) Ak3101 32 (bv (l.drop 12))) := Lib.hid (own_rowQ ho3101 LX3090_3098.out (Nat.lt_of_lt_of_le LW.out (hH3099).size))
            clear ho3101 hn3101
            go_simp
            have BX3090_3101 := Lib.hid ((hb3101.block wd3000.heap.size LX3090_3098.out).trans BX3090_3098.out)
            have LX3090_3101 := Lib.hid (Nat.lt_of_lt_of_le LX3090_3098.out hb3101.size)
            have BX3098_3101 := Lib.hid ((hb3101.block wn3090.heap.size LX3098.out).trans BX3098.out)
            have LX3098_3101 := Lib.hid (Nat.lt_of_lt_of_le LX3098.out hb3101.size)
            have hS3101 : Below (w0.heap.size) w0 wn3101 := (hH3099).trans (hb3101.mono (hH3099).size)
            refine hK.out _ _ hS3101 (fun hH3101 => ?_)
            have hH3101 : Below (w0.heap.size) w0 wn3101 := hH3101
            clear hK K hS3101
            try simp only [Act.put, List.setIfInBounds_toArray, List.set_cons_zero, List.set_cons_succ]
            refine wpAnyH_take (i := 22) (oi := { dst := some 31, op := Op.build 28 #[(0, Operand.tmp 11), (1, Operand.tmp 14), (2, Operand.tmp 18), (3, Operand.tmp 22), (4, Operand.tmp 26), (5, Operand.tmp 30)], type := 28, pos := "ref.go:298", after := #[{ on := 2, ground := Ground.data }, { on := 5, ground := Ground.data }, { on := 9, ground := Ground.data }, { on := 13, ground := Ground.data }, { on := 17, ground := Ground.data }, { on := 21, ground := Ground.data }], guard := none }) (v := ?tkv3102) rfl (by kernel_rfl) (by kernel_rfl) (by kernel_rfl) (fun _ _ _ h => h) (Or.inl ⟨by rfl, ?tky3102⟩) hH3101 ?tkr3102
            case tky3102 => (intro w' hSw; clear hSw; go_simp; try with_reducible rfl)
            try simp only [Act.put, List.setIfInBounds_toArray, List.set_cons_zero, List.set_cons_succ]
            refine wpAnyH_ready (rs := [24]) (by kernel_rfl) (by simp) ?_
            refine AllReadyH.cons (o := { dst := none, op := Op.store 28 (Operand.tmp 4) (Operand.tmp 31), type := 0, pos := "ref.go:298", after := #[{ on := 23, ground := Ground.data }, { on := 22, ground := Ground.data }, { on := 21, ground := Ground.chain }, { on := 0, ground := Ground.phase }, { on := 1, ground := Ground.phase }, { on := 2, ground := Ground.phase }, { on := 3, ground := Ground.phase }, { on := 4, ground := Ground.phase }, { on := 5, ground := Ground.phase }, { on := 6, ground := Ground.phase }, { on := 7, ground := Ground.phase }, { on := 8, ground := Ground.phase }, { on := 9, ground := Ground.phase }, { on := 10, ground := Ground.phase }, { on := 11, ground := Ground.phase }, { on := 12, ground := Ground.phase }, { on := 13, ground := Ground.phase }, { on := 14, ground := Ground.phase }, { on := 15, ground := Ground.phase }, { on := 16, ground := Ground.phase }, { on := 17, ground := Ground.phase }, { on := 18, ground := Ground.phase }, { on := 19, ground := Ground.phase }, { on := 20, ground := Ground.phase }, { on := 21, ground := Ground.phase }, { on := 22, ground := Ground.phase }, { on := 23, ground := Ground.phase }], guard := none }) rfl (fun K hK => ?_) AllReadyH.nil
            rw [if_pos (by rfl)]
            rw [HW3.out, HW10.out, HW11.out]
            refine wp_store_row _ _ _ rfl wd3000.heap.size #[.int .u32 (CrcM.number (l.take 4) : Nat), .int .u32 (CrcM.number ((l.drop 4).take 4) : Nat), .int .i64 (CrcM.number ((l.drop 8).take 2) : Nat), .int .i64 (l[10].toNat : Int), .int .i64 (l[11].toNat : Int), .slice Ak3101 32 ck3101] rfl rfl _ _ BX3090_3101.out (by kernel_rfl) (by rfl) (by simp [Value.oneCell']) ?_
            have hS3103 : Below (w0.heap.size) w0 (wn3101.setRow wd3000.heap.size #[.int .u32 (CrcM.number (l.take 4) : Nat), .int .u32 (CrcM.number ((l.drop 4).take 4) : Nat), .int .i64 (CrcM.number ((l.drop 8).take 2) : Nat), .int .i64 (l[10].toNat : Int), .int .i64 (l[11].toNat : Int), .slice Ak3101 32 ck3101]) := (below_setRow2 (hH3101) GE3090.out _)
            refine hK.out _ _ hS3103 (fun hH3103 => ?_)
            have hH3103 : Below (w0.heap.size) w0 (wn3101.setRow wd3000.heap.size #[.int .u32 (CrcM.number (l.take 4) : Nat), .int .u32 (CrcM.number ((l.drop 4).take 4) : Nat), .int .i64 (CrcM.number ((l.drop 8).take 2) : Nat), .int .i64 (l[10].toNat : Int), .int .i64 (l[11].toNat : Int), .slice Ak3101 32 ck3101]) := hH3103
            clear hK K hS3103
            refine wpAnyH_done (by kernel_rfl) ?_ _
            refine NoPanic.normal ?_
            have HBX := Lib.hid (setRow_heap _ _ _ #[.int .u32 (CrcM.number (l.take 4) : Nat), .int .u32 (CrcM.number ((l.drop 4).take 4) : Nat), .int .i64 (CrcM.number ((l.drop 8).take 2) : Nat), .int .i64 (l[10].toNat : Int), .int .i64 (l[11].toNat : Int), .slice Ak3101 32 ck3101] _ _ BX3090_3101.out)
            have HRW := Lib.hid ((RK3101_.out.keep (Nat.le_of_eq (setRow_size _ _ _).symm) fun b hb _ => setRow_other _ _ _ #[.int .u32 (CrcM.number (l.take 4) : Nat), .int .u32 (CrcM.number ((l.drop 4).take 4) : Nat), .int .i64 (CrcM.number ((l.drop 8).take 2) : Nat), .int .i64 (l[10].toNat : Int), .int .i64 (l[11].toNat : Int), .slice Ak3101 32 ck3101] hb.2).imp (P' := fun b => w.heap.size < b) fun b _ hb => hb.1)
            go_wp2_with fail
            go_meet
            exact ⟨_, _, _, rfl, HBX, HRW, Lib.hid (hH3103)⟩
        · go_simp
          have hb3104 : Below wn3090.heap.size wn3090 (wn3090.alloc (.cells #[.slice (some ⟨b, o + 12, none⟩) 32 (c - 12)] 23)) := (Below.refl _ _).alloc (Nat.le_refl _) _
          have BX3104 : Hid ((wn3090.alloc (.cells #[.slice (some ⟨b, o + 12, none⟩) 32 (c - 12)] 23)).heap[wn3090.heap.size]? = some (.cells #[.slice (some ⟨b, o + 12, none⟩) 32 (c - 12)] 23 (0, 0))) := Lib.hid (heap_alloc_new _ _)
          have LX3104 : Hid (wn3090.heap.size < (wn3090.alloc (.cells #[.slice (some ⟨b, o + 12, none⟩) 32 (c - 12)] 23)).heap.size) := Lib.hid (by simp)
          generalize (wn3090.alloc (.cells #[.slice (some ⟨b, o + 12, none⟩) 32 (c - 12)] 23)) = wn3104 at *
          have BX3090_3104 := Lib.hid ((hb3104.block wd3000.heap.size LX3090.out).trans BX3090.out)
          have LX3090_3104 := Lib.hid (Nat.lt_of_lt_of_le LX3090.out hb3104.size)
          have hS3104 : Below (w0.heap.size) w0 wn3104 := (hH3090).trans (hb3104.mono (hH3090).size)
          refine hK.out _ _ hS3104 (fun hH3104 => ?_)
          have hH3104 : Below (w0.heap.size) w0 wn3104 := hH3104
          clear hK K hS3104
          try simp only [Act.put, List.setIfInBounds_toArray, List.set_cons_zero, List.set_cons_succ]
          refine wpAnyH_ready (rs := [5]) (by kernel_rfl) (by simp) ?_
          refine AllReadyH.cons (o := { dst := some 14, op := Op.call { callee := Callee.value (Operand.func 39), args := #[Operand.tmp 13], argTypes := #[23] }, type := 22, pos := "ref.go:298", after := #[{ on := 4, ground := Ground.data }, { on := 2, ground := Ground.chain }], guard := none }) rfl (fun K hK => ?_) AllReadyH.nil
          go_simp
          refine (r1num_any 4 w0.heap.size _ _ _ wn3104 (HQ2.out wn3104 (hH3104)) (by omega)).mono ?_
          rintro e' _ ⟨rfl, rfl⟩
          go_simp
          have hS3105 : Below (w0.heap.size) w0 wn3104 := hH3104
          refine hK.out _ _ hS3105 (fun hH3105 => ?_)
          have hH3105 : Below (w0.heap.size) w0 wn3104 := hH3105
          clear hK K hS3105
          try simp only [Act.put, List.setIfInBounds_toArray, List.set_cons_zero, List.set_cons_succ]
          refine wpAnyH_ready (rs := [8]) (by kernel_rfl) (by simp) ?_
          refine AllReadyH.cons (o := { dst := some 17, op := Op.call { callee := Callee.value (Operand.func 39), args := #[Operand.tmp 16], argTypes := #[23] }, type := 22, pos := "ref.go:298", after := #[{ on := 7, ground := Ground.data }, { on := 5, ground := Ground.chain }], guard := none }) rfl (fun K hK => ?_) AllReadyH.nil
          go_simp
          refine (r1num_any 2 w0.heap.size _ _ _ wn3104 (HQ3.out wn3104 (hH3105)) (by omega)).mono ?_
          rintro e' _ ⟨rfl, rfl⟩
          go_simp
          have hS3106 : Below (w0.heap.size) w0 wn3104 := hH3105
          refine hK.out _ _ hS3106 (fun hH3106 => ?_)
          have hH3106 : Below (w0.heap.size) w0 wn3104 := hH3106
          clear hK K hS3106
          try simp only [Act.put, List.setIfInBounds_toArray, List.set_cons_zero, List.set_cons_succ]
          refine wpAnyH_take (i := 9) (oi := { dst := some 18, op := Op.convert 22 3 (Operand.tmp 17), type := 3, pos := "ref.go:298", after := #[{ on := 8, ground := Ground.data }], guard := none }) (v := ?tkv3107) rfl (by kernel_rfl) (by kernel_rfl) (by kernel_rfl) (fun _ _ _ h => h) (Or.inl ⟨by rfl, ?tky3107⟩) hH3106 ?tkr3107
          case tky3107 => (intro w' hSw; have z0 := HC.out _ hSw; clear hSw; go_simp; try with_reducible rfl)
          try simp only [Act.put, List.setIfInBounds_toArray, List.set_cons_zero, List.set_cons_succ]
          refine wpAnyH_ready (rs := [21]) (by kernel_rfl) (by simp) ?_
          refine AllReadyH.cons (o := { dst := some 30, op := Op.call { callee := Callee.value (Operand.func 24), args := #[Operand.tmp 29], argTypes := #[69] }, type := 23, pos := "ref.go:298", after := #[{ on := 20, ground := Ground.data }, { on := 8, ground := Ground.chain }], guard := none }) rfl (fun K hK => ?_) AllReadyH.nil
          go_simp
          refine (join_box [⟨some ⟨b, o + 12, none⟩, 32, c - 12, l.drop 12⟩] 1 rfl rfl BX3104.out (by
            intro r hr
            simp only [List.mem_cons, List.not_mem_nil, or_false] at hr
            subst hr
            exact RowP.of_row ((HQ4.out wn3104 (hH3106)).more (hH3106).size)) (by simp) (by have := HL.out; simp [flat]; omega) (l := l.drop 12) (by simp [flat])).mono ?_
          rintro e' wn3108 ⟨Ak3108, nk3108, ck3108, rfl, hn3108, ho3108, hb3108⟩
          have hn23108 := hn3108.out
          rw [HD12.out] at hn23108
          subst hn23108
          have RK3108_ : Hid (RowP wn3108 (fun b => w.heap.size < b ∧ b ≠ wd3000.heap.size) Ak3108 32 (bv (l.drop 12))) := Lib.hid (own_rowQ ho3108 LX3090_3104.out (Nat.lt_of_lt_of_le LW.out (hH3106).size))
          clear ho3108 hn3108
          go_simp
          have BX3090_3108 := Lib.hid ((hb3108.block wd3000.heap.size LX3090_3104.out).trans BX3090_3104.out)
          have LX3090_3108 := Lib.hid (Nat.lt_of_lt_of_le LX3090_3104.out hb3108.size)
          have BX3104_3108 := Lib.hid ((hb3108.block wn3090.heap.size LX3104.out).trans BX3104.out)
          have LX3104_3108 := Lib.hid (Nat.lt_of_lt_of_le LX3104.out hb3108.size)
          have hS3108 : Below (w0.heap.size) w0 wn3108 := (hH3106).trans (hb3108.mono (hH3106).size)
          refine hK.out _ _ hS3108 (fun hH3108 => ?_)
          have hH3108 : Below (w0.heap.size) w0 wn3108 := hH3108
          clear hK K hS3108
          try simp only [Act.put, List.setIfInBounds_toArray, List.set_cons_zero, List.set_cons_succ]
          refine wpAnyH_take (i := 22) (oi := { dst := some 31, op := Op.build 28 #[(0, Operand.tmp 11), (1, Operand.tmp 14), (2, Operand.tmp 18), (3, Operand.tmp 22), (4, Operand.tmp 26), (5, Operand.tmp 30)], type := 28, pos := "ref.go:298", after := #[{ on := 2, ground := Ground.data }, { on := 5, ground := Ground.data }, { on := 9, ground := Ground.data }, { on := 13, ground := Ground.data }, { on := 17, ground := Ground.data }, { on := 21, ground := Ground.data }], guard := none }) (v := ?tkv3109) rfl (by kernel_rfl) (by kernel_rfl) (by kernel_rfl) (fun _ _ _ h => h) (Or.inl ⟨by rfl, ?tky3109⟩) hH3108 ?tkr3109
          case tky3109 => (intro w' hSw; clear hSw; go_simp; try with_reducible rfl)
          try simp only [Act.put, List.setIfInBounds_toArray, List.set_cons_zero, List.set_cons_succ]
          refine wpAnyH_ready (rs := [24]) (by kernel_rfl) (by simp) ?_
          refine AllReadyH.cons (o := { dst := none, op := Op.store 28 (Operand.tmp 4) (Operand.tmp 31), type := 0, pos := "ref.go:298", after := #[{ on := 23, ground := Ground.data }, { on := 22, ground := Ground.data }, { on := 21, ground := Ground.chain }, { on := 0, ground := Ground.phase }, { on := 1, ground := Ground.phase }, { on := 2, ground := Ground.phase }, { on := 3, ground := Ground.phase }, { on := 4, ground := Ground.phase }, { on := 5, ground := Ground.phase }, { on := 6, ground := Ground.phase }, { on := 7, ground := Ground.phase }, { on := 8, ground := Ground.phase }, { on := 9, ground := Ground.phase }, { on := 10, ground := Ground.phase }, { on := 11, ground := Ground.phase }, { on := 12, ground := Ground.phase }, { on := 13, ground := Ground.phase }, { on := 14, ground := Ground.phase }, { on := 15, ground := Ground.phase }, { on := 16, ground := Ground.phase }, { on := 17, ground := Ground.phase }, { on := 18, ground := Ground.phase }, { on := 19, ground := Ground.phase }, { on := 20, ground := Ground.phase }, { on := 21, ground := Ground.phase }, { on := 22, ground := Ground.phase }, { on := 23, ground := Ground.phase }], guard := none }) rfl (fun K hK => ?_) AllReadyH.nil
          rw [if_pos (by rfl)]
          rw [HW3.out, HW10.out, HW11.out]
          refine wp_store_row _ _ _ rfl wd3000.heap.size #[.int .u32 (CrcM.number (l.take 4) : Nat), .int .u32 (CrcM.number ((l.drop 4).take 4) : Nat), .int .i64 (CrcM.number ((l.drop 8).take 2) : Nat), .int .i64 (l[10].toNat : Int), .int .i64 (l[11].toNat : Int), .slice Ak3108 32 ck3108] rfl rfl _ _ BX3090_3108.out (by kernel_rfl) (by rfl) (by simp [Value.oneCell']) ?_
          have hS3110 : Below (w0.heap.size) w0 (wn3108.setRow wd3000.heap.size #[.int .u32 (CrcM.number (l.take 4) : Nat), .int .u32 (CrcM.number ((l.drop 4).take 4) : Nat), .int .i64 (CrcM.number ((l.drop 8).take 2) : Nat), .int .i64 (l[10].toNat : Int), .int .i64 (l[11].toNat : Int), .slice Ak3108 32 ck3108]) := (below_setRow2 (hH3108) GE3090.out _)
          refine hK.out _ _ hS3110 (fun hH3110 => ?_)
          have hH3110 : Below (w0.heap.size) w0 (wn3108.setRow wd3000.heap.size #[.int .u32 (CrcM.number (l.take 4) : Nat), .int .u32 (CrcM.number ((l.drop 4).take 4) : Nat), .int .i64 (CrcM.number ((l.drop 8).take 2) : Nat), .int .i64 (l[10].toNat : Int), .int .i64 (l[11].toNat : Int), .slice Ak3108 32 ck3108]) := hH3110
          clear hK K hS3110
          refine wpAnyH_done (by kernel_rfl) ?_ _
          refine NoPanic.normal ?_
          have HBX := Lib.hid (setRow_heap _ _ _ #[.int .u32 (CrcM.number (l.take 4) : Nat), .int .u32 (CrcM.number ((l.drop 4).take 4) : Nat), .int .i64 (CrcM.number ((l.drop 8).take 2) : Nat), .int .i64 (l[10].toNat : Int), .int .i64 (l[11].toNat : Int), .slice Ak3108 32 ck3108] _ _ BX3090_3108.out)
          have HRW := Lib.hid ((RK3108_.out.keep (Nat.le_of_eq (setRow_size _ _ _).symm) fun b hb _ => setRow_other _ _ _ #[.int .u32 (CrcM.number (l.take 4) : Nat), .int .u32 (CrcM.number ((l.drop 4).take 4) : Nat), .int .i64 (CrcM.number ((l.drop 8).take 2) : Nat), .int .i64 (l[10].toNat : Int), .int .i64 (l[11].toNat : Int), .slice Ak3108 32 ck3108] hb.2).imp (P' := fun b => w.heap.size < b) fun b _ hb => hb.1)
          go_wp2_with fail
          go_meet
          exact ⟨_, _, _, rfl, HBX, HRW, Lib.hid (hH3110)⟩
    · go_simp
      have hb3111 : Below wd3000.heap.size wd3000 (wd3000.alloc (.cells #[.slice (some ⟨b, o + 12, none⟩) 32 (c - 12)] 23)) := (Below.refl _ _).alloc (Nat.le_refl _) _
      have BX3111 : Hid ((wd3000.alloc (.cells #[.slice (some ⟨b, o + 12, none⟩) 32 (c - 12)] 23)).heap[wd3000.heap.size]? = some (.cells #[.slice (some ⟨b, o + 12, none⟩) 32 (c - 12)] 23 (0, 0))) := Lib.hid (heap_alloc_new _ _)
      have LX3111 : Hid (wd3000.heap.size < (wd3000.alloc (.cells #[.slice (some ⟨b, o + 12, none⟩) 32 (c - 12)] 23)).heap.size) := Lib.hid (by simp)
      generalize (wd3000.alloc (.cells #[.slice (some ⟨b, o + 12, none⟩) 32 (c - 12)] 23)) = wn3111 at *
      have hS3111 : Below (w0.heap.size) w0 wn3111 := (hH0).trans (hb3111.mono (hH0).size)
      refine hK.out _ _ hS3111 (fun hH3111 => ?_)
      have hH3111 : Below (w0.heap.size) w0 wn3111 := hH3111
      clear hK K hS3111
      try simp only [Act.put, List.setIfInBounds_toArray, List.set_cons_zero, List.set_cons_succ]
      refine wpAnyH_ready (rs := [2, 23]) (by kernel_rfl) (by simp) ?_
      refine AllReadyH.cons (o := { dst := some 11, op := Op.call { callee := Callee.value (Operand.func 39), args := #[Operand.tmp 10], argTypes := #[23] }, type := 22, pos := "ref.go:298", after := #[{ on := 1, ground := Ground.data }], guard := none }) rfl (fun K hK => ?_) (AllReadyH.cons (o := { dst := some 4, op := Op.alloc 28, type := 0, pos := "ref.go:298", after := #[], guard := none }) rfl (fun K hK => ?_) AllReadyH.nil)
      · go_simp
        refine (r1num_any 4 w0.heap.size _ _ _ wn3111 (HQ1.out wn3111 (hH3111)) (by omega)).mono ?_
        rintro e' _ ⟨rfl, rfl⟩
        go_simp
        have hS3112 : Below (w0.heap.size) w0 wn3111 := hH3111
        refine hK.out _ _ hS3112 (fun hH3112 => ?_)
        have hH3112 : Below (w0.heap.size) w0 wn3111 := hH3112
        clear hK K hS3112
        try simp only [Act.put, List.setIfInBounds_toArray, List.set_cons_zero, List.set_cons_succ]
        refine wpAnyH_ready (rs := [5, 23]) (by kernel_rfl) (by simp) ?_
        refine AllReadyH.cons (o := { dst := some 14, op := Op.call { callee := Callee.value (Operand.func 39), args := #[Operand.tmp 13], argTypes := #[23] }, type := 22, pos := "ref.go:298", after := #[{ on := 4, ground := Ground.data }, { on := 2, ground := Ground.chain }], guard := none }) rfl (fun K hK => ?_) (AllReadyH.cons (o := { dst := some 4, op := Op.alloc 28, type := 0, pos := "ref.go:298", after := #[], guard := none }) rfl (fun K hK => ?_) AllReadyH.nil)
        · go_simp
          refine (r1num_any 4 w0.heap.size _ _ _ wn3111 (HQ2.out wn3111 (hH3112)) (by omega)).mono ?_
          rintro e' _ ⟨rfl, rfl⟩
          go_simp
          have hS3113 : Below (w0.heap.size) w0 wn3111 := hH3112
          refine hK.out _ _ hS3113 (fun hH3113 => ?_)
          have hH3113 : Below (w0.heap.size) w0 wn3111 := hH3113
          clear hK K hS3113
          try simp only [Act.put, List.setIfInBounds_toArray, List.set_cons_zero, List.set_cons_succ]
          refine wpAnyH_ready (rs := [8, 23]) (by kernel_rfl) (by simp) ?_
          refine AllReadyH.cons (o := { dst := some 17, op := Op.call { callee := Callee.value (Operand.func 39), args := #[Operand.tmp 16], argTypes := #[23] }, type := 22, pos := "ref.go:298", after := #[{ on := 7, ground := Ground.data }, { on := 5, ground := Ground.chain }], guard := none }) rfl (fun K hK => ?_) (AllReadyH.cons (o := { dst := some 4, op := Op.alloc 28, type := 0, pos := "ref.go:298", after := #[], guard := none }) rfl (fun K hK => ?_) AllReadyH.nil)
          · go_simp
            refine (r1num_any 2 w0.heap.size _ _ _ wn3111 (HQ3.out wn3111 (hH3113)) (by omega)).mono ?_
            rintro e' _ ⟨rfl, rfl⟩
            go_simp
            have hS3114 : Below (w0.heap.size) w0 wn3111 := hH3113
            refine hK.out _ _ hS3114 (fun hH3114 => ?_)
            have hH3114 : Below (w0.heap.size) w0 wn3111 := hH3114
            clear hK K hS3114
            try simp only [Act.put, List.setIfInBounds_toArray, List.set_cons_zero, List.set_cons_succ]
            refine wpAnyH_take (i := 9) (oi := { dst := some 18, op := Op.convert 22 3 (Operand.tmp 17), type := 3, pos := "ref.go:298", after := #[{ on := 8, ground := Ground.data }], guard := none }) (v := ?tkv3115) rfl (by kernel_rfl) (by kernel_rfl) (by kernel_rfl) (fun _ _ _ h => h) (Or.inl ⟨by rfl, ?tky3115⟩) hH3114 ?tkr3115
            case tky3115 => (intro w' hSw; have z0 := HC.out _ hSw; clear hSw; go_simp; try with_reducible rfl)
            try simp only [Act.put, List.setIfInBounds_toArray, List.set_cons_zero, List.set_cons_succ]
            refine wpAnyH_ready (rs := [21, 23]) (by kernel_rfl) (by simp) ?_
            refine AllReadyH.cons (o := { dst := some 30, op := Op.call { callee := Callee.value (Operand.func 24), args := #[Operand.tmp 29], argTypes := #[69] }, type := 23, pos := "ref.go:298", after := #[{ on := 20, ground := Ground.data }, { on := 8, ground := Ground.chain }], guard := none }) rfl (fun K hK => ?_) (AllReadyH.cons (o := { dst := some 4, op := Op.alloc 28, type := 0, pos := "ref.go:298", after := #[], guard := none }) rfl (fun K hK => ?_) AllReadyH.nil)
            · go_simp
              refine (join_box [⟨some ⟨b, o + 12, none⟩, 32, c - 12, l.drop 12⟩] 1 rfl rfl BX3111.out (by
                intro r hr
                simp only [List.mem_cons, List.not_mem_nil, or_false] at hr
                subst hr
                exact RowP.of_row ((HQ4.out wn3111 (hH3114)).more (hH3114).size)) (by simp) (by have := HL.out; simp [flat]; omega) (l := l.drop 12) (by simp [flat])).mono ?_
              rintro e' wn3116 ⟨Ak3116, nk3116, ck3116, rfl, hn3116, ho3116, hb3116⟩
              have hn23116 := hn3116.out
              rw [HD12.out] at hn23116
              subst hn23116
              have RK3116_ : Hid (RowP wn3116 (fun b => w.heap.size < b) Ak3116 32 (bv (l.drop 12))) := Lib.hid (own_rowP ho3116 (Nat.lt_of_lt_of_le LW.out (hH3114).size))
              clear ho3116 hn3116
              go_simp
              have BX3111_3116 := Lib.hid ((hb3116.block wd3000.heap.size LX3111.out).trans BX3111.out)
              have LX3111_3116 := Lib.hid (Nat.lt_of_lt_of_le LX3111.out hb3116.size)
              have hS3116 : Below (w0.heap.size) w0 wn3116 := (hH3114).trans (hb3116.mono (hH3114).size)
              refine hK.out _ _ hS3116 (fun hH3116 => ?_)
              have hH3116 : Below (w0.heap.size) w0 wn3116 := hH3116
              clear hK K hS3116
              try simp only [Act.put, List.setIfInBounds_toArray, List.set_cons_zero, List.set_cons_succ]
              refine wpAnyH_take (i := 22) (oi := { dst := some 31, op := Op.build 28 #[(0, Operand.tmp 11), (1, Operand.tmp 14), (2, Operand.tmp 18), (3, Operand.tmp 22), (4, Operand.tmp 26), (5, Operand.tmp 30)], type := 28, pos := "ref.go:298", after := #[{ on := 2, ground := Ground.data }, { on := 5, ground := Ground.data }, { on := 9, ground := Ground.data }, { on := 13, ground := Ground.data }, { on := 17, ground := Ground.data }, { on := 21, ground := Ground.data }], guard := none }) (v := ?tkv3117) rfl (by kernel_rfl) (by kernel_rfl) (by kernel_rfl) (fun _ _ _ h => h) (Or.inl ⟨by rfl, ?tky3117⟩) hH3116 ?tkr3117
              case tky3117 => (intro w' hSw; clear hSw; go_simp; try with_reducible rfl)
              try simp only [Act.put, List.setIfInBounds_toArray, List.set_cons_zero, List.set_cons_succ]
              refine wpAnyH_ready (rs := [23]) (by kernel_rfl) (by simp) ?_
              refine AllReadyH.cons (o := { dst := some 4, op := Op.alloc 28, type := 0, pos := "ref.go:298", after := #[], guard := none }) rfl (fun K hK => ?_) AllReadyH.nil
              go_simp
              have hb3118 : Below wn3116.heap.size wn3116 (wn3116.alloc (.cells #[.int .u32 0, .int .u32 0, .int .i64 0, .int .i64 0, .int .i64 0, .slice none 0 0] 28)) := (Below.refl _ _).alloc (Nat.le_refl _) _
              have BX3118 : Hid ((wn3116.alloc (.cells #[.int .u32 0, .int .u32 0, .int .i64 0, .int .i64 0, .int .i64 0, .slice none 0 0] 28)).heap[wn3116.heap.size]? = some (.cells #[.int .u32 0, .int .u32 0, .int .i64 0, .int .i64 0, .int .i64 0, .slice none 0 0] 28 (0, 0))) := Lib.hid (heap_alloc_new _ _)
              have LX3118 : Hid (wn3116.heap.size < (wn3116.alloc (.cells #[.int .u32 0, .int .u32 0, .int .i64 0, .int .i64 0, .int .i64 0, .slice none 0 0] 28)).heap.size) := Lib.hid (by simp)
              have GE3118 : Hid (w0.heap.size ≤ wn3116.heap.size) := Lib.hid (hH3116).size
              have RQ3118_ := Lib.hid (RK3116_.out.imp (P' := fun b => w.heap.size < b ∧ b ≠ wn3116.heap.size) (fun b hb hp => ⟨hp, Nat.ne_of_lt hb⟩))
              generalize (wn3116.alloc (.cells #[.int .u32 0, .int .u32 0, .int .i64 0, .int .i64 0, .int .i64 0, .slice none 0 0] 28)) = wn3118 at *
              have BX3111_3118 := Lib.hid ((hb3118.block wd3000.heap.size LX3111_3116.out).trans BX3111_3116.out)
              have LX3111_3118 := Lib.hid (Nat.lt_of_lt_of_le LX3111_3116.out hb3118.size)
              have RQ3118_3118 := Lib.hid (RQ3118_.out.below hb3118)
              have hS3118 : Below (w0.heap.size) w0 wn3118 := (hH3116).trans (hb3118.mono (hH3116).size)
              refine hK.out _ _ hS3118 (fun hH3118 => ?_)
              have hH3118 : Below (w0.heap.size) w0 wn3118 := hH3118
              clear hK K hS3118
              try simp only [Act.put, List.setIfInBounds_toArray, List.set_cons_zero, List.set_cons_succ]
              refine wpAnyH_ready (rs := [24]) (by kernel_rfl) (by simp) ?_
              refine AllReadyH.cons (o := { dst := none, op := Op.store 28 (Operand.tmp 4) (Operand.tmp 31), type := 0, pos := "ref.go:298", after := #[{ on := 23, ground := Ground.data }, { on := 22, ground := Ground.data }, { on := 21, ground := Ground.chain }, { on := 0, ground := Ground.phase }, { on := 1, ground := Ground.phase }, { on := 2, ground := Ground.phase }, { on := 3, ground := Ground.phase }, { on := 4, ground := Ground.phase }, { on := 5, ground := Ground.phase }, { on := 6, ground := Ground.phase }, { on := 7, ground := Ground.phase }, { on := 8, ground := Ground.phase }, { on := 9, ground := Ground.phase }, { on := 10, ground := Ground.phase }, { on := 11, ground := Ground.phase }, { on := 12, ground := Ground.phase }, { on := 13, ground := Ground.phase }, { on := 14, ground := Ground.phase }, { on := 15, ground := Ground.phase }, { on := 16, ground := Ground.phase }, { on := 17, ground := Ground.phase }, { on := 18, ground := Ground.phase }, { on := 19, ground := Ground.phase }, { on := 20, ground := Ground.phase }, { on := 21, ground := Ground.phase }, { on := 22, ground := Ground.phase }, { on := 23, ground := Ground.phase }], guard := none }) rfl (fun K hK => ?_) AllReadyH.nil
              rw [if_pos (by rfl)]
              rw [HW3.out, HW10.out, HW11.out]
              refine wp_store_row _ _ _ rfl wn3116.heap.size #[.int .u32 (CrcM.number (l.take 4) : Nat), .int .u32 (CrcM.number ((l.drop 4).take 4) : Nat), .int .i64 (CrcM.number ((l.drop 8).take 2) : Nat), .int .i64 (l[10].toNat : Int), .int .i64 (l[11].toNat : Int), .slice Ak3116 32 ck3116] rfl rfl _ _ BX3118.out (by kernel_rfl) (by rfl) (by simp [Value.oneCell']) ?_
              have hS3119 : Below (w0.heap.size) w0 (wn3118.setRow wn3116.heap.size #[.int .u32 (CrcM.number (l.take 4) : Nat), .int .u32 (CrcM.number ((l.drop 4).take 4) : Nat), .int .i64 (CrcM.number ((l.drop 8).take 2) : Nat), .int .i64 (l[10].toNat : Int), .int .i64 (l[11].toNat : Int), .slice Ak3116 32 ck3116]) := (below_setRow2 (hH3118) GE3118.out _)
              refine hK.out _ _ hS3119 (fun hH3119 => ?_)
              have hH3119 : Below (w0.heap.size) w0 (wn3118.setRow wn3116.heap.size #[.int .u32 (CrcM.number (l.take 4) : Nat), .int .u32 (CrcM.number ((l.drop 4).take 4) : Nat), .int .i64 (CrcM.number ((l.drop 8).take 2) : Nat), .int .i64 (l[10].toNat : Int), .int .i64 (l[11].toNat : Int), .slice Ak3116 32 ck3116]) := hH3119
              clear hK K hS3119
              refine wpAnyH_done (by kernel_rfl) ?_ _
              refine NoPanic.normal ?_
              have HBX := Lib.hid (setRow_heap _ _ _ #[.int .u32 (CrcM.number (l.take 4) : Nat), .int .u32 (CrcM.number ((l.drop 4).take 4) : Nat), .int .i64 (CrcM.number ((l.drop 8).take 2) : Nat), .int .i64 (l[10].toNat : Int), .int .i64 (l[11].toNat : Int), .slice Ak3116 32 ck3116] _ _ BX3118.out)
              have HRW := Lib.hid ((RQ3118_3118.out.keep (Nat.le_of_eq (setRow_size _ _ _).symm) fun b hb _ => setRow_other _ _ _ #[.int .u32 (CrcM.number (l.take 4) : Nat), .int .u32 (CrcM.number ((l.drop 4).take 4) : Nat), .int .i64 (CrcM.number ((l.drop 8).take 2) : Nat), .int .i64 (l[10].toNat : Int), .int .i64 (l[11].toNat : Int), .slice Ak3116 32 ck3116] hb.2).imp (P' := fun b => w.heap.size < b) fun b _ hb => hb.1)
              go_wp2_with fail
              go_meet
              exact ⟨_, _, _, rfl, HBX, HRW, Lib.hid (hH3119)⟩
            · go_simp
              have hb3120 : Below wn3111.heap.size wn3111 (wn3111.alloc (.cells #[.int .u32 0, .int .u32 0, .int .i64 0, .int .i64 0, .int .i64 0, .slice none 0 0] 28)) := (Below.refl _ _).alloc (Nat.le_refl _) _
              have BX3120 : Hid ((wn3111.alloc (.cells #[.int .u32 0, .int .u32 0, .int .i64 0, .int .i64 0, .int .i64 0, .slice none 0 0] 28)).heap[wn3111.heap.size]? = some (.cells #[.int .u32 0, .int .u32 0, .int .i64 0, .int .i64 0, .int .i64 0, .slice none 0 0] 28 (0, 0))) := Lib.hid (heap_alloc_new _ _)
              have LX3120 : Hid (wn3111.heap.size < (wn3111.alloc (.cells #[.int .u32 0, .int .u32 0, .int .i64 0, .int .i64 0, .int .i64 0, .slice none 0 0] 28)).heap.size) := Lib.hid (by simp)
              have GE3120 : Hid (w0.heap.size ≤ wn3111.heap.size) := Lib.hid (hH3114).size
              generalize (wn3111.alloc (.cells #[.int .u32 0, .int .u32 0, .int .i64 0, .int .i64 0, .int .i64 0, .slice none 0 0] 28)) = wn3120 at *
              have BX3111_3120 := Lib.hid ((hb3120.block wd3000.heap.size LX3111.out).trans BX3111.out)
              have LX3111_3120 := Lib.hid (Nat.lt_of_lt_of_le LX3111.out hb3120.size)
              have hS3120 : Below (w0.heap.size) w0 wn3120 := (hH3114).trans (hb3120.mono (hH3114).size)
              refine hK.out _ _ hS3120 (fun hH3120 => ?_)
              have hH3120 : Below (w0.heap.size) w0 wn3120 := hH3120
              clear hK K hS3120
              try simp only [Act.put, List.setIfInBounds_toArray, List.set_cons_zero, List.set_cons_succ]
              refine wpAnyH_ready (rs := [21]) (by kernel_rfl) (by simp) ?_
              refine AllReadyH.cons (o := { dst := some 30, op := Op.call { callee := Callee.value (Operand.func 24), args := #[Operand.tmp 29], argTypes := #[69] }, type := 23, pos := "ref.go:298", after := #[{ on := 20, ground := Ground.data }, { on := 8, ground := Ground.chain }], guard := none }) rfl (fun K hK => ?_) AllReadyH.nil
              go_simp
              refine (join_box [⟨some ⟨b, o + 12, none⟩, 32, c - 12, l.drop 12⟩] 1 rfl rfl BX3111_3120.out (by
                intro r hr
                simp only [List.mem_cons, List.not_mem_nil, or_false] at hr
                subst hr
                exact RowP.of_row ((HQ4.out wn3120 (hH3120)).more (hH3120).size)) (by simp) (by have := HL.out; simp [flat]; omega) (l := l.drop 12) (by simp [flat])).mono ?_
              rintro e' wn3121 ⟨Ak3121, nk3121, ck3121, rfl, hn3121, ho3121, hb3121⟩
              have hn23121 := hn3121.out
              rw [HD12.out] at hn23121
              subst hn23121
              have RK3121_ : Hid (RowP wn3121 (fun b => w.heap.size < b ∧ b ≠ wn3111.heap.size) Ak3121 32 (bv (l.drop 12))) := Lib.hid (own_rowQ ho3121 LX3120.out (Nat.lt_of_lt_of_le LW.out (hH3120).size))
              clear ho3121 hn3121
              go_simp
              have BX3111_3121 := Lib.hid ((hb3121.block wd3000.heap.size LX3111_3120.out).trans BX3111_3120.out)
              have LX3111_3121 := Lib.hid (Nat.lt_of_lt_of_le LX3111_3120.out hb3121.size)
              have BX3120_3121 := Lib.hid ((hb3121.block wn3111.heap.size LX3120.out).trans BX3120.out)
              have LX3120_3121 := Lib.hid (Nat.lt_of_lt_of_le LX3120.out hb3121.size)
              have hS3121 : Below (w0.heap.size) w0 wn3121 := (hH3120).trans (hb3121.mono (hH3120).size)
              refine hK.out _ _ hS3121 (fun hH3121 => ?_)
              have hH3121 : Below (w0.heap.size) w0 wn3121 := hH3121
              clear hK K hS3121
              try simp only [Act.put, List.setIfInBounds_toArray, List.set_cons_zero, List.set_cons_succ]
              refine wpAnyH_take (i := 22) (oi := { dst := some 31, op := Op.build 28 #[(0, Operand.tmp 11), (1, Operand.tmp 14), (2, Operand.tmp 18), (3, Operand.tmp 22), (4, Operand.tmp 26), (5, Operand.tmp 30)], type := 28, pos := "ref.go:298", after := #[{ on := 2, ground := Ground.data }, { on := 5, ground := Ground.data }, { on := 9, ground := Ground.data }, { on := 13, ground := Ground.data }, { on := 17, ground := Ground.data }, { on := 21, ground := Ground.data }], guard := none }) (v := ?tkv3122) rfl (by kernel_rfl) (by kernel_rfl) (by kernel_rfl) (fun _ _ _ h => h) (Or.inl ⟨by rfl, ?tky3122⟩) hH3121 ?tkr3122
              case tky3122 => (intro w' hSw; clear hSw; go_simp; try with_reducible rfl)
              try simp only [Act.put, List.setIfInBounds_toArray, List.set_cons_zero, List.set_cons_succ]
              refine wpAnyH_ready (rs := [24]) (by kernel_rfl) (by simp) ?_
              refine AllReadyH.cons (o := { dst := none, op := Op.store 28 (Operand.tmp 4) (Operand.tmp 31), type := 0, pos := "ref.go:298", after := #[{ on := 23, ground := Ground.data }, { on := 22, ground := Ground.data }, { on := 21, ground := Ground.chain }, { on := 0, ground := Ground.phase }, { on := 1, ground := Ground.phase }, { on := 2, ground := Ground.phase }, { on := 3, ground := Ground.phase }, { on := 4, ground := Ground.phase }, { on := 5, ground := Ground.phase }, { on := 6, ground := Ground.phase }, { on := 7, ground := Ground.phase }, { on := 8, ground := Ground.phase }, { on := 9, ground := Ground.phase }, { on := 10, ground := Ground.phase }, { on := 11, ground := Ground.phase }, { on := 12, ground := Ground.phase }, { on := 13, ground := Ground.phase }, { on := 14, ground := Ground.phase }, { on := 15, ground := Ground.phase }, { on := 16, ground := Ground.phase }, { on := 17, ground := Ground.phase }, { on := 18, ground := Ground.phase }, { on := 19, ground := Ground.phase }, { on := 20, ground := Ground.phase }, { on := 21, ground := Ground.phase }, { on := 22, ground := Ground.phase }, { on := 23, ground := Ground.phase }], guard := none }) rfl (fun K hK => ?_) AllReadyH.nil
              rw [if_pos (by rfl)]
              rw [HW3.out, HW10.out, HW11.out]
              refine wp_store_row _ _ _ rfl wn3111.heap.size #[.int .u32 (CrcM.number (l.take 4) : Nat), .int .u32 (CrcM.number ((l.drop 4).take 4) : Nat), .int .i64 (CrcM.number ((l.drop 8).take 2) : Nat), .int .i64 (l[10].toNat : Int), .int .i64 (l[11].toNat : Int), .slice Ak3121 32 ck3121] rfl rfl _ _ BX3120_3121.out (by kernel_rfl) (by rfl) (by simp [Value.oneCell']) ?_
              have hS3123 : Below (w0.heap.size) w0 (wn3121.setRow wn3111.heap.size #[.int .u32 (CrcM.number (l.take 4) : Nat), .int .u32 (CrcM.number ((l.drop 4).take 4) : Nat), .int .i64 (CrcM.number ((l.drop 8).take 2) : Nat), .int .i64 (l[10].toNat : Int), .int .i64 (l[11].toNat : Int), .slice Ak3121 32 ck3121]) := (below_setRow2 (hH3121) GE3120.out _)
              refine hK.out _ _ hS3123 (fun hH3123 => ?_)
              have hH3123 : Below (w0.heap.size) w0 (wn3121.setRow wn3111.heap.size #[.int .u32 (CrcM.number (l.take 4) : Nat), .int .u32 (CrcM.number ((l.drop 4).take 4) : Nat), .int .i64 (CrcM.number ((l.drop 8).take 2) : Nat), .int .i64 (l[10].toNat : Int), .int .i64 (l[11].toNat : Int), .slice Ak3121 32 ck3121]) := hH3123
              clear hK K hS3123
              refine wpAnyH_done (by kernel_rfl) ?_ _
              refine NoPanic.normal ?_
              have HBX := Lib.hid (setRow_heap _ _ _ #[.int .u32 (CrcM.number (l.take 4) : Nat), .int .u32 (CrcM.number ((l.drop 4).take 4) : Nat), .int .i64 (CrcM.number ((l.drop 8).take 2) : Nat), .int .i64 (l[10].toNat : Int), .int .i64 (l[11].toNat : Int), .slice Ak3121 32 ck3121] _ _ BX3120_3121.out)
              have HRW := Lib.hid ((RK3121_.out.keep (Nat.le_of_eq (setRow_size _ _ _).symm) fun b hb _ => setRow_other _ _ _ #[.int .u32 (CrcM.number (l.take 4) : Nat), .int .u32 (CrcM.number ((l.drop 4).take 4) : Nat), .int .i64 (CrcM.number ((l.drop 8).take 2) : Nat), .int .i64 (l[10].toNat : Int), .int .i64 (l[11].toNat : Int), .slice Ak3121 32 ck3121] hb.2).imp (P' := fun b => w.heap.size < b) fun b _ hb => hb.1)
              go_wp2_with fail
              go_meet
              exact ⟨_, _, _, rfl, HBX, HRW, Lib.hid (hH3123)⟩
          · go_simp
            have hb3124 : Below wn3111.heap.size wn3111 (wn3111.alloc (.cells #[.int .u32 0, .int .u32 0, .int .i64 0, .int .i64 0, .int .i64 0, .slice none 0 0] 28)) := (Below.refl _ _).alloc (Nat.le_refl _) _
            have BX3124 : Hid ((wn3111.alloc (.cells #[.int .u32 0, .int .u32 0, .int .i64 0, .int .i64 0, .int .i64 0, .slice none 0 0] 28)).heap[wn3111.heap.size]? = some (.cells #[.int .u32 0, .int .u32 0, .int .i64 0, .int .i64 0, .int .i64 0, .slice none 0 0] 28 (0, 0))) := Lib.hid (heap_alloc_new _ _)
            have LX3124 : Hid (wn3111.heap.size < (wn3111.alloc (.cells #[.int .u32 0, .int .u32 0, .int .i64 0, .int .i64 0, .int .i64 0, .slice none 0 0] 28)).heap.size) := Lib.hid (by simp)
            have GE3124 : Hid (w0.heap.size ≤ wn3111.heap.size) := Lib.hid (hH3113).size
            generalize (wn3111.alloc (.cells #[.int .u32 0, .int .u32 0, .int .i64 0, .int .i64 0, .int .i64 0, .slice none 0 0] 28)) = wn3124 at *
            have BX3111_3124 := Lib.hid ((hb3124.block wd3000.heap.size LX3111.out).trans BX3111.out)
            have LX3111_3124 := Lib.hid (Nat.lt_of_lt_of_le LX3111.out hb3124.size)
            have hS3124 : Below (w0.heap.size) w0 wn3124 := (hH3113).trans (hb3124.mono (hH3113).size)
            refine hK.out _ _ hS3124 (fun hH3124 => ?_)
            have hH3124 : Below (w0.heap.size) w0 wn3124 := hH3124
            clear hK K hS3124
            try simp only [Act.put, List.setIfInBounds_toArray, List.set_cons_zero, List.set_cons_succ]
            refine wpAnyH_ready (rs := [8]) (by kernel_rfl) (by simp) ?_
            refine AllReadyH.cons (o := { dst := some 17, op := Op.call { callee := Callee.value (Operand.func 39), args := #[Operand.tmp 16], argTypes := #[23] }, type := 22, pos := "ref.go:298", after := #[{ on := 7, ground := Ground.data }, { on := 5, ground := Ground.chain }], guard := none }) rfl (fun K hK => ?_) AllReadyH.nil
            go_simp
            refine (r1num_any 2 w0.heap.size _ _ _ wn3124 (HQ3.out wn3124 (hH3124)) (by omega)).mono ?_
            rintro e' _ ⟨rfl, rfl⟩
            go_simp
            have hS3125 : Below (w0.heap.size) w0 wn3124 := hH3124
            refine hK.out _ _ hS3125 (fun hH3125 => ?_)
            have hH3125 : Below (w0.heap.size) w0 wn3124 := hH3125
            clear hK K hS3125
            try simp only [Act.put, List.setIfInBounds_toArray, List.set_cons_zero, List.set_cons_succ]
            refine wpAnyH_take (i := 9) (oi := { dst := some 18, op := Op.convert 22 3 (Operand.tmp 17), type := 3, pos := "ref.go:298", after := #[{ on := 8, ground := Ground.data }], guard := none }) (v := ?tkv3126) rfl (by kernel_rfl) (by kernel_rfl) (by kernel_rfl) (fun _ _ _ h => h) (Or.inl ⟨by rfl, ?tky3126⟩) hH3125 ?tkr3126
            case tky3126 => (intro w' hSw; have z0 := HC.out _ hSw; clear hSw; go_simp; try with_reducible rfl)
            try simp only [Act.put, List.setIfInBounds_toArray, List.set_cons_zero, List.set_cons_succ]
            refine wpAnyH_ready (rs := [21]) (by kernel_rfl) (by simp) ?_
            refine AllReadyH.cons (o := { dst := some 30, op := Op.call { callee := Callee.value (Operand.func 24), args := #[Operand.tmp 29], argTypes := #[69] }, type := 23, pos := "ref.go:298", after := #[{ on := 20, ground := Ground.data }, { on := 8, ground := Ground.chain }], guard := none }) rfl (fun K hK => ?_) AllReadyH.nil
            go_simp
            refine (join_box [⟨some ⟨b, o + 12, none⟩, 32, c - 12, l.drop 12⟩] 1 rfl rfl BX3111_3124.out (by
              intro r hr
              simp only [List.mem_cons, List.not_mem_nil, or_false] at hr
              subst hr
              exact RowP.of_row ((HQ4.out wn3124 (hH3125)).more (hH3125).size)) (by simp) (by have := HL.out; simp [flat]; omega) (l := l.drop 12) (by simp [flat])).mono ?_
            rintro e' wn3127 ⟨Ak3127, nk3127, ck3127, rfl, hn3127, ho3127, hb3127⟩
            have hn23127 := hn3127.out
            rw [HD12.out] at hn23127
            subst hn23127
            have RK3127_ : Hid (RowP wn3127 (fun b => w.heap.size < b ∧ b ≠ wn3111.heap.size) Ak3127 32 (bv (l.drop 12))) := Lib.hid (own_rowQ ho3127 LX3124.out (Nat.lt_of_lt_of_le LW.out (hH3125).size))
            clear ho3127 hn3127
            go_simp
            have BX3111_3127 := Lib.hid ((hb3127.block wd3000.heap.size LX3111_3124.out).trans BX3111_3124.out)
            have LX3111_3127 := Lib.hid (Nat.lt_of_lt_of_le LX3111_3124.out hb3127.size)
            have BX3124_3127 := Lib.hid ((hb3127.block wn3111.heap.size LX3124.out).trans BX3124.out)
            have LX3124_3127 := Lib.hid (Nat.lt_of_lt_of_le LX3124.out hb3127.size)
            have hS3127 : Below (w0.heap.size) w0 wn3127 := (hH3125).trans (hb3127.mono (hH3125).size)
            refine hK.out _ _ hS3127 (fun hH3127 => ?_)
            have hH3127 : Below (w0.heap.size) w0 wn3127 := hH3127
            clear hK K hS3127
            try simp only [Act.put, List.setIfInBounds_toArray, List.set_cons_zero, List.set_cons_succ]
            refine wpAnyH_take (i := 22) (oi := { dst := some 31, op := Op.build 28 #[(0, Operand.tmp 11), (1, Operand.tmp 14), (2, Operand.tmp 18), (3, Operand.tmp 22), (4, Operand.tmp 26), (5, Operand.tmp 30)], type := 28, pos := "ref.go:298", after := #[{ on := 2, ground := Ground.data }, { on := 5, ground := Ground.data }, { on := 9, ground := Ground.data }, { on := 13, ground := Ground.data }, { on := 17, ground := Ground.data }, { on := 21, ground := Ground.data }], guard := none }) (v := ?tkv3128) rfl (by kernel_rfl) (by kernel_rfl) (by kernel_rfl) (fun _ _ _ h => h) (Or.inl ⟨by rfl, ?tky3128⟩) hH3127 ?tkr3128
            case tky3128 => (intro w' hSw; clear hSw; go_simp; try with_reducible rfl)
            try simp only [Act.put, List.setIfInBounds_toArray, List.set_cons_zero, List.set_cons_succ]
            refine wpAnyH_ready (rs := [24]) (by kernel_rfl) (by simp) ?_
            refine AllReadyH.cons (o := { dst := none, op := Op.store 28 (Operand.tmp 4) (Operand.tmp 31), type := 0, pos := "ref.go:298", after := #[{ on := 23, ground := Ground.data }, { on := 22, ground := Ground.data }, { on := 21, ground := Ground.chain }, { on := 0, ground := Ground.phase }, { on := 1, ground := Ground.phase }, { on := 2, ground := Ground.phase }, { on := 3, ground := Ground.phase }, { on := 4, ground := Ground.phase }, { on := 5, ground := Ground.phase }, { on := 6, ground := Ground.phase }, { on := 7, ground := Ground.phase }, { on := 8, ground := Ground.phase }, { on := 9, ground := Ground.phase }, { on := 10, ground := Ground.phase }, { on := 11, ground := Ground.phase }, { on := 12, ground := Ground.phase }, { on := 13, ground := Ground.phase }, { on := 14, ground := Ground.phase }, { on := 15, ground := Ground.phase }, { on := 16, ground := Ground.phase }, { on := 17, ground := Ground.phase }, { on := 18, ground := Ground.phase }, { on := 19, ground := Ground.phase }, { on := 20, ground := Ground.phase }, { on := 21, ground := Ground.phase }, { on := 22, ground := Ground.phase }, { on := 23, ground := Ground.phase }], guard := none }) rfl (fun K hK => ?_) AllReadyH.nil
            rw [if_pos (by rfl)]
            rw [HW3.out, HW10.out, HW11.out]
            refine wp_store_row _ _ _ rfl wn3111.heap.size #[.int .u32 (CrcM.number (l.take 4) : Nat), .int .u32 (CrcM.number ((l.drop 4).take 4) : Nat), .int .i64 (CrcM.number ((l.drop 8).take 2) : Nat), .int .i64 (l[10].toNat : Int), .int .i64 (l[11].toNat : Int), .slice Ak3127 32 ck3127] rfl rfl _ _ BX3124_3127.out (by kernel_rfl) (by rfl) (by simp [Value.oneCell']) ?_
            have hS3129 : Below (w0.heap.size) w0 (wn3127.setRow wn3111.heap.size #[.int .u32 (CrcM.number (l.take 4) : Nat), .int .u32 (CrcM.number ((l.drop 4).take 4) : Nat), .int .i64 (CrcM.number ((l.drop 8).take 2) : Nat), .int .i64 (l[10].toNat : Int), .int .i64 (l[11].toNat : Int), .slice Ak3127 32 ck3127]) := (below_setRow2 (hH3127) GE3124.out _)
            refine hK.out _ _ hS3129 (fun hH3129 => ?_)
            have hH3129 : Below (w0.heap.size) w0 (wn3127.setRow wn3111.heap.size #[.int .u32 (CrcM.number (l.take 4) : Nat), .int .u32 (CrcM.number ((l.drop 4).take 4) : Nat), .int .i64 (CrcM.number ((l.drop 8).take 2) : Nat), .int .i64 (l[10].toNat : Int), .int .i64 (l[11].toNat : Int), .slice Ak3127 32 ck3127]) := hH3129
            clear hK K hS3129
            refine wpAnyH_done (by kernel_rfl) ?_ _
            refine NoPanic.normal ?_
            have HBX := Lib.hid (setRow_heap _ _ _ #[.int .u32 (CrcM.number (l.take 4) : Nat), .int .u32 (CrcM.number ((l.drop 4).take 4) : Nat), .int .i64 (CrcM.number ((l.drop 8).take 2) : Nat), .int .i64 (l[10].toNat : Int), .int .i64 (l[11].toNat : Int), .slice Ak3127 32 ck3127] _ _ BX3124_3127.out)
            have HRW := Lib.hid ((RK3127_.out.keep (Nat.le_of_eq (setRow_size _ _ _).symm) fun b hb _ => setRow_other _ _ _ #[.int .u32 (CrcM.number (l.take 4) : Nat), .int .u32 (CrcM.number ((l.drop 4).take 4) : Nat), .int .i64 (CrcM.number ((l.drop 8).take 2) : Nat), .int .i64 (l[10].toNat : Int), .int .i64 (l[11].toNat : Int), .slice Ak3127 32 ck3127] hb.2).imp (P' := fun b => w.heap.size < b) fun b _ hb => hb.1)
            go_wp2_with fail
            go_meet
            exact ⟨_, _, _, rfl, HBX, HRW, Lib.hid (hH3129)⟩
        · go_simp
          have hb3130 : Below wn3111.heap.size wn3111 (wn3111.alloc (.cells #[.int .u32 0, .int .u32 0, .int .i64 0, .int .i64 0, .int .i64 0, .slice none 0 0] 28)) := (Below.refl _ _).alloc (Nat.le_refl _) _
          have BX3130 : Hid ((wn3111.alloc (.cells #[.int .u32 0, .int .u32 0, .int .i64 0, .int .i64 0, .int .i64 0, .slice none 0 0] 28)).heap[wn3111.heap.size]? = some (.cells #[.int .u32 0, .int .u32 0, .int .i64 0, .int .i64 0, .int .i64 0, .slice none 0 0] 28 (0, 0))) := Lib.hid (heap_alloc_new _ _)
          have LX3130 : Hid (wn3111.heap.size < (wn3111.alloc (.cells #[.int .u32 0, .int .u32 0, .int .i64 0, .int .i64 0, .int .i64 0, .slice none 0 0] 28)).heap.size) := Lib.hid (by simp)
          have GE3130 : Hid (w0.heap.size ≤ wn3111.heap.size) := Lib.hid (hH3112).size
          generalize (wn3111.alloc (.cells #[.int .u32 0, .int .u32 0, .int .i64 0, .int .i64 0, .int .i64 0, .slice none 0 0] 28)) = wn3130 at *
          have BX3111_3130 := Lib.hid ((hb3130.block wd3000.heap.size LX3111.out).trans BX3111.out)
          have LX3111_3130 := Lib.hid (Nat.lt_of_lt_of_le LX3111.out hb3130.size)
          have hS3130 : Below (w0.heap.size) w0 wn3130 := (hH3112).trans (hb3130.mono (hH3112).size)
          refine hK.out _ _ hS3130 (fun hH3130 => ?_)
          have hH3130 : Below (w0.heap.size) w0 wn3130 := hH3130
          clear hK K hS3130
          try simp only [Act.put, List.setIfInBounds_toArray, List.set_cons_zero, List.set_cons_succ]
          refine wpAnyH_ready (rs := [5]) (by kernel_rfl) (by simp) ?_
          refine AllReadyH.cons (o := { dst := some 14, op := Op.call { callee := Callee.value (Operand.func 39), args := #[Operand.tmp 13], argTypes := #[23] }, type := 22, pos := "ref.go:298", after := #[{ on := 4, ground := Ground.data }, { on := 2, ground := Ground.chain }], guard := none }) rfl (fun K hK => ?_) AllReadyH.nil
          go_simp
          refine (r1num_any 4 w0.heap.size _ _ _ wn3130 (HQ2.out wn3130 (hH3130)) (by omega)).mono ?_
          rintro e' _ ⟨rfl, rfl⟩
          go_simp
          have hS3131 : Below (w0.heap.size) w0 wn3130 := hH3130
          refine hK.out _ _ hS3131 (fun hH3131 => ?_)
          have hH3131 : Below (w0.heap.size) w0 wn3130 := hH3131
          clear hK K hS3131
          try simp only [Act.put, List.setIfInBounds_toArray, List.set_cons_zero, List.set_cons_succ]
          refine wpAnyH_ready (rs := [8]) (by kernel_rfl) (by simp) ?_
          refine AllReadyH.cons (o := { dst := some 17, op := Op.call { callee := Callee.value (Operand.func 39), args := #[Operand.tmp 16], argTypes := #[23] }, type := 22, pos := "ref.go:298", after := #[{ on := 7, ground := Ground.data }, { on := 5, ground := Ground.chain }], guard := none }) rfl (fun K hK => ?_) AllReadyH.nil
          go_simp
          refine (r1num_any 2 w0.heap.size _ _ _ wn3130 (HQ3.out wn3130 (hH3131)) (by omega)).mono ?_
          rintro e' _ ⟨rfl, rfl⟩
          go_simp
          have hS3132 : Below (w0.heap.size) w0 wn3130 := hH3131
          refine hK.out _ _ hS3132 (fun hH3132 => ?_)
          have hH3132 : Below (w0.heap.size) w0 wn3130 := hH3132
          clear hK K hS3132
          try simp only [Act.put, List.setIfInBounds_toArray, List.set_cons_zero, List.set_cons_succ]
          refine wpAnyH_take (i := 9) (oi := { dst := some 18, op := Op.convert 22 3 (Operand.tmp 17), type := 3, pos := "ref.go:298", after := #[{ on := 8, ground := Ground.data }], guard := none }) (v := ?tkv3133) rfl (by kernel_rfl) (by kernel_rfl) (by kernel_rfl) (fun _ _ _ h => h) (Or.inl ⟨by rfl, ?tky3133⟩) hH3132 ?tkr3133
          case tky3133 => (intro w' hSw; have z0 := HC.out _ hSw; clear hSw; go_simp; try with_reducible rfl)
          try simp only [Act.put, List.setIfInBounds_toArray, List.set_cons_zero, List.set_cons_succ]
          refine wpAnyH_ready (rs := [21]) (by kernel_rfl) (by simp) ?_
          refine AllReadyH.cons (o := { dst := some 30, op := Op.call { callee := Callee.value (Operand.func 24), args := #[Operand.tmp 29], argTypes := #[69] }, type := 23, pos := "ref.go:298", after := #[{ on := 20, ground := Ground.data }, { on := 8, ground := Ground.chain }], guard := none }) rfl (fun K hK => ?_) AllReadyH.nil
          go_simp
          refine (join_box [⟨some ⟨b, o + 12, none⟩, 32, c - 12, l.drop 12⟩] 1 rfl rfl BX3111_3130.out (by
            intro r hr
            simp only [List.mem_cons, List.not_mem_nil, or_false] at hr
            subst hr
            exact RowP.of_row ((HQ4.out wn3130 (hH3132)).more (hH3132).size)) (by simp) (by have := HL.out; simp [flat]; omega) (l := l.drop 12) (by simp [flat])).mono ?_
          rintro e' wn3134 ⟨Ak3134, nk3134, ck3134, rfl, hn3134, ho3134, hb3134⟩
          have hn23134 := hn3134.out
          rw [HD12.out] at hn23134
          subst hn23134
          have RK3134_ : Hid (RowP wn3134 (fun b => w.heap.size < b ∧ b ≠ wn3111.heap.size) Ak3134 32 (bv (l.drop 12))) := Lib.hid (own_rowQ ho3134 LX3130.out (Nat.lt_of_lt_of_le LW.out (hH3132).size))
          clear ho3134 hn3134
          go_simp
          have BX3111_3134 := Lib.hid ((hb3134.block wd3000.heap.size LX3111_3130.out).trans BX3111_3130.out)
          have LX3111_3134 := Lib.hid (Nat.lt_of_lt_of_le LX3111_3130.out hb3134.size)
          have BX3130_3134 := Lib.hid ((hb3134.block wn3111.heap.size LX3130.out).trans BX3130.out)
          have LX3130_3134 := Lib.hid (Nat.lt_of_lt_of_le LX3130.out hb3134.size)
          have hS3134 : Below (w0.heap.size) w0 wn3134 := (hH3132).trans (hb3134.mono (hH3132).size)
          refine hK.out _ _ hS3134 (fun hH3134 => ?_)
          have hH3134 : Below (w0.heap.size) w0 wn3134 := hH3134
          clear hK K hS3134
          try simp only [Act.put, List.setIfInBounds_toArray, List.set_cons_zero, List.set_cons_succ]
          refine wpAnyH_take (i := 22) (oi := { dst := some 31, op := Op.build 28 #[(0, Operand.tmp 11), (1, Operand.tmp 14), (2, Operand.tmp 18), (3, Operand.tmp 22), (4, Operand.tmp 26), (5, Operand.tmp 30)], type := 28, pos := "ref.go:298", after := #[{ on := 2, ground := Ground.data }, { on := 5, ground := Ground.data }, { on := 9, ground := Ground.data }, { on := 13, ground := Ground.data }, { on := 17, ground := Ground.data }, { on := 21, ground := Ground.data }], guard := none }) (v := ?tkv3135) rfl (by kernel_rfl) (by kernel_rfl) (by kernel_rfl) (fun _ _ _ h => h) (Or.inl ⟨by rfl, ?tky3135⟩) hH3134 ?tkr3135
          case tky3135 => (intro w' hSw; clear hSw; go_simp; try with_reducible rfl)
          try simp only [Act.put, List.setIfInBounds_toArray, List.set_cons_zero, List.set_cons_succ]
          refine wpAnyH_ready (rs := [24]) (by kernel_rfl) (by simp) ?_
          refine AllReadyH.cons (o := { dst := none, op := Op.store 28 (Operand.tmp 4) (Operand.tmp 31), type := 0, pos := "ref.go:298", after := #[{ on := 23, ground := Ground.data }, { on := 22, ground := Ground.data }, { on := 21, ground := Ground.chain }, { on := 0, ground := Ground.phase }, { on := 1, ground := Ground.phase }, { on := 2, ground := Ground.phase }, { on := 3, ground := Ground.phase }, { on := 4, ground := Ground.phase }, { on := 5, ground := Ground.phase }, { on := 6, ground := Ground.phase }, { on := 7, ground := Ground.phase }, { on := 8, ground := Ground.phase }, { on := 9, ground := Ground.phase }, { on := 10, ground := Ground.phase }, { on := 11, ground := Ground.phase }, { on := 12, ground := Ground.phase }, { on := 13, ground := Ground.phase }, { on := 14, ground := Ground.phase }, { on := 15, ground := Ground.phase }, { on := 16, ground := Ground.phase }, { on := 17, ground := Ground.phase }, { on := 18, ground := Ground.phase }, { on := 19, ground := Ground.phase }, { on := 20, ground := Ground.phase }, { on := 21, ground := Ground.phase }, { on := 22, ground := Ground.phase }, { on := 23, ground := Ground.phase }], guard := none }) rfl (fun K hK => ?_) AllReadyH.nil
          rw [if_pos (by rfl)]
          rw [HW3.out, HW10.out, HW11.out]
          refine wp_store_row _ _ _ rfl wn3111.heap.size #[.int .u32 (CrcM.number (l.take 4) : Nat), .int .u32 (CrcM.number ((l.drop 4).take 4) : Nat), .int .i64 (CrcM.number ((l.drop 8).take 2) : Nat), .int .i64 (l[10].toNat : Int), .int .i64 (l[11].toNat : Int), .slice Ak3134 32 ck3134] rfl rfl _ _ BX3130_3134.out (by kernel_rfl) (by rfl) (by simp [Value.oneCell']) ?_
          have hS3136 : Below (w0.heap.size) w0 (wn3134.setRow wn3111.heap.size #[.int .u32 (CrcM.number (l.take 4) : Nat), .int .u32 (CrcM.number ((l.drop 4).take 4) : Nat), .int .i64 (CrcM.number ((l.drop 8).take 2) : Nat), .int .i64 (l[10].toNat : Int), .int .i64 (l[11].toNat : Int), .slice Ak3134 32 ck3134]) := (below_setRow2 (hH3134) GE3130.out _)
          refine hK.out _ _ hS3136 (fun hH3136 => ?_)
          have hH3136 : Below (w0.heap.size) w0 (wn3134.setRow wn3111.heap.size #[.int .u32 (CrcM.number (l.take 4) : Nat), .int .u32 (CrcM.number ((l.drop 4).take 4) : Nat), .int .i64 (CrcM.number ((l.drop 8).take 2) : Nat), .int .i64 (l[10].toNat : Int), .int .i64 (l[11].toNat : Int), .slice Ak3134 32 ck3134]) := hH3136
          clear hK K hS3136
          refine wpAnyH_done (by kernel_rfl) ?_ _
          refine NoPanic.normal ?_
          have HBX := Lib.hid (setRow_heap _ _ _ #[.int .u32 (CrcM.number (l.take 4) : Nat), .int .u32 (CrcM.number ((l.drop 4).take 4) : Nat), .int .i64 (CrcM.number ((l.drop 8).take 2) : Nat), .int .i64 (l[10].toNat : Int), .int .i64 (l[11].toNat : Int), .slice Ak3134 32 ck3134] _ _ BX3130_3134.out)
          have HRW := Lib.hid ((RK3134_.out.keep (Nat.le_of_eq (setRow_size _ _ _).symm) fun b hb _ => setRow_other _ _ _ #[.int .u32 (CrcM.number (l.take 4) : Nat), .int .u32 (CrcM.number ((l.drop 4).take 4) : Nat), .int .i64 (CrcM.number ((l.drop 8).take 2) : Nat), .int .i64 (l[10].toNat : Int), .int .i64 (l[11].toNat : Int), .slice Ak3134 32 ck3134] hb.2).imp (P' := fun b => w.heap.size < b) fun b _ hb => hb.1)
          go_wp2_with fail
          go_meet
          exact ⟨_, _, _, rfl, HBX, HRW, Lib.hid (hH3136)⟩
      · go_simp
        have hb3137 : Below wn3111.heap.size wn3111 (wn3111.alloc (.cells #[.int .u32 0, .int .u32 0, .int .i64 0, .int .i64 0, .int .i64 0, .slice none 0 0] 28)) := (Below.refl _ _).alloc (Nat.le_refl _) _
        have BX3137 : Hid ((wn3111.alloc (.cells #[.int .u32 0, .int .u32 0, .int .i64 0, .int .i64 0, .int .i64 0, .slice none 0 0] 28)).heap[wn3111.heap.size]? = some (.cells #[.int .u32 0, .int .u32 0, .int .i64 0, .int .i64 0, .int .i64 0, .slice none 0 0] 28 (0, 0))) := Lib.hid (heap_alloc_new _ _)
        have LX3137 : Hid (wn3111.heap.size < (wn3111.alloc (.cells #[.int .u32 0, .int .u32 0, .int .i64 0, .int .i64 0, .int .i64 0, .slice none 0 0] 28)).heap.size) := Lib.hid (by simp)
        have GE3137 : Hid (w0.heap.size ≤ wn3111.heap.size) := Lib.hid (hH3111).size
        generalize (wn3111.alloc (.cells #[.int .u32 0, .int .u32 0, .int .i64 0, .int .i64 0, .int .i64 0, .slice none 0 0] 28)) = wn3137 at *
        have BX3111_3137 := Lib.hid ((hb3137.block wd3000.heap.size LX3111.out).trans BX3111.out)
        have LX3111_3137 := Lib.hid (Nat.lt_of_lt_of_le LX3111.out hb3137.size)
        have hS3137 : Below (w0.heap.size) w0 wn3137 := (hH3111).trans (hb3137.mono (hH3111).size)
        refine hK.out _ _ hS3137 (fun hH3137 => ?_)
        have hH3137 : Below (w0.heap.size) w0 wn3137 := hH3137
        clear hK K hS3137
        try simp only [Act.put, List.setIfInBounds_toArray, List.set_cons_zero, List.set_cons_succ]
        refine wpAnyH_ready (rs := [2]) (by kernel_rfl) (by simp) ?_
        refine AllReadyH.cons (o := { dst := some 11, op := Op.call { callee := Callee.value (Operand.func 39), args := #[Operand.tmp 10], argTypes := #[23] }, type := 22, pos := "ref.go:298", after := #[{ on := 1, ground := Ground.data }], guard := none }) rfl (fun K hK => ?_) AllReadyH.nil
        go_simp
        refine (r1num_any 4 w0.heap.size _ _ _ wn3137 (HQ1.out wn3137 (hH3137)) (by omega)).mono ?_
        rintro e' _ ⟨rfl, rfl⟩
        go_simp
        have hS3138 : Below (w0.heap.size) w0 wn3137 := hH3137
        refine hK.out _ _ hS3138 (fun hH3138 => ?_)
        have hH3138 : Below (w0.heap.size) w0 wn3137 := hH3138
        clear hK K hS3138
        try simp only [Act.put, List.setIfInBounds_toArray, List.set_cons_zero, List.set_cons_succ]
        refine wpAnyH_ready (rs := [5]) (by kernel_rfl) (by simp) ?_
        refine AllReadyH.cons (o := { dst := some 14, op := Op.call { callee := Callee.value (Operand.func 39), args := #[Operand.tmp 13], argTypes := #[23] }, type := 22, pos := "ref.go:298", after := #[{ on := 4, ground := Ground.data }, { on := 2, ground := Ground.chain }], guard := none }) rfl (fun K hK => ?_) AllReadyH.nil
        go_simp
        refine (r1num_any 4 w0.heap.size _ _ _ wn3137 (HQ2.out wn3137 (hH3138)) (by omega)).mono ?_
        rintro e' _ ⟨rfl, rfl⟩
        go_simp
        have hS3139 : Below (w0.heap.size) w0 wn3137 := hH3138
        refine hK.out _ _ hS3139 (fun hH3139 => ?_)
        have hH3139 : Below (w0.heap.size) w0 wn3137 := hH3139
        clear hK K hS3139
        try simp only [Act.put, List.setIfInBounds_toArray, List.set_cons_zero, List.set_cons_succ]
        refine wpAnyH_ready (rs := [8]) (by kernel_rfl) (by simp) ?_
        refine AllReadyH.cons (o := { dst := some 17, op := Op.call { callee := Callee.value (Operand.func 39), args := #[Operand.tmp 16], argTypes := #[23] }, type := 22, pos := "ref.go:298", after := #[{ on := 7, ground := Ground.data }, { on := 5, ground := Ground.chain }], guard := none }) rfl (fun K hK => ?_) AllReadyH.nil
        go_simp
        refine (r1num_any 2 w0.heap.size _ _ _ wn3137 (HQ3.out wn3137 (hH3139)) (by omega)).mono ?_
        rintro e' _ ⟨rfl, rfl⟩
        go_simp
        have hS3140 : Below (w0.heap.size) w0 wn3137 := hH3139
        refine hK.out _ _ hS3140 (fun hH3140 => ?_)
        have hH3140 : Below (w0.heap.size) w0 wn3137 := hH3140
        clear hK K hS3140
        try simp only [Act.put, List.setIfInBounds_toArray, List.set_cons_zero, List.set_cons_succ]
        refine wpAnyH_take (i := 9) (oi := { dst := some 18, op := Op.convert 22 3 (Operand.tmp 17), type := 3, pos := "ref.go:298", after := #[{ on := 8, ground := Ground.data }], guard := none }) (v := ?tkv3141) rfl (by kernel_rfl) (by kernel_rfl) (by kernel_rfl) (fun _ _ _ h => h) (Or.inl ⟨by rfl, ?tky3141⟩) hH3140 ?tkr3141
        case tky3141 => (intro w' hSw; have z0 := HC.out _ hSw; clear hSw; go_simp; try with_reducible rfl)
        try simp only [Act.put, List.setIfInBounds_toArray, List.set_cons_zero, List.set_cons_succ]
        refine wpAnyH_ready (rs := [21]) (by kernel_rfl) (by simp) ?_
        refine AllReadyH.cons (o := { dst := some 30, op := Op.call { callee := Callee.value (Operand.func 24), args := #[Operand.tmp 29], argTypes := #[69] }, type := 23, pos := "ref.go:298", after := #[{ on := 20, ground := Ground.data }, { on := 8, ground := Ground.chain }], guard := none }) rfl (fun K hK => ?_) AllReadyH.nil
        go_simp
        refine (join_box [⟨some ⟨b, o + 12, none⟩, 32, c - 12, l.drop 12⟩] 1 rfl rfl BX3111_3137.out (by
          intro r hr
          simp only [List.mem_cons, List.not_mem_nil, or_false] at hr
          subst hr
          exact RowP.of_row ((HQ4.out wn3137 (hH3140)).more (hH3140).size)) (by simp) (by have := HL.out; simp [flat]; omega) (l := l.drop 12) (by simp [flat])).mono ?_
        rintro e' wn3142 ⟨Ak3142, nk3142, ck3142, rfl, hn3142, ho3142, hb3142⟩
        have hn23142 := hn3142.out
        rw [HD12.out] at hn23142
        subst hn23142
        have RK3142_ : Hid (RowP wn3142 (fun b => w.heap.size < b ∧ b ≠ wn3111.heap.size) Ak3142 32 (bv (l.drop 12))) := Lib.hid (own_rowQ ho3142 LX3137.out (Nat.lt_of_lt_of_le LW.out (hH3140).size))
        clear ho3142 hn3142
        go_simp
        have BX3111_3142 := Lib.hid ((hb3142.block wd3000.heap.size LX3111_3137.out).trans BX3111_3137.out)
        have LX3111_3142 := Lib.hid (Nat.lt_of_lt_of_le LX3111_3137.out hb3142.size)
        have BX3137_3142 := Lib.hid ((hb3142.block wn3111.heap.size LX3137.out).trans BX3137.out)
        have LX3137_3142 := Lib.hid (Nat.lt_of_lt_of_le LX3137.out hb3142.size)
        have hS3142 : Below (w0.heap.size) w0 wn3142 := (hH3140).trans (hb3142.mono (hH3140).size)
        refine hK.out _ _ hS3142 (fun hH3142 => ?_)
        have hH3142 : Below (w0.heap.size) w0 wn3142 := hH3142
        clear hK K hS3142
        try simp only [Act.put, List.setIfInBounds_toArray, List.set_cons_zero, List.set_cons_succ]
        refine wpAnyH_take (i := 22) (oi := { dst := some 31, op := Op.build 28 #[(0, Operand.tmp 11), (1, Operand.tmp 14), (2, Operand.tmp 18), (3, Operand.tmp 22), (4, Operand.tmp 26), (5, Operand.tmp 30)], type := 28, pos := "ref.go:298", after := #[{ on := 2, ground := Ground.data }, { on := 5, ground := Ground.data }, { on := 9, ground := Ground.data }, { on := 13, ground := Ground.data }, { on := 17, ground := Ground.data }, { on := 21, ground := Ground.data }], guard := none }) (v := ?tkv3143) rfl (by kernel_rfl) (by kernel_rfl) (by kernel_rfl) (fun _ _ _ h => h) (Or.inl ⟨by rfl, ?tky3143⟩) hH3142 ?tkr3143
        case tky3143 => (intro w' hSw; clear hSw; go_simp; try with_reducible rfl)
        try simp only [Act.put, List.setIfInBounds_toArray, List.set_cons_zero, List.set_cons_succ]
        refine wpAnyH_ready (rs := [24]) (by kernel_rfl) (by simp) ?_
        refine AllReadyH.cons (o := { dst := none, op := Op.store 28 (Operand.tmp 4) (Operand.tmp 31), type := 0, pos := "ref.go:298", after := #[{ on := 23, ground := Ground.data }, { on := 22, ground := Ground.data }, { on := 21, ground := Ground.chain }, { on := 0, ground := Ground.phase }, { on := 1, ground := Ground.phase }, { on := 2, ground := Ground.phase }, { on := 3, ground := Ground.phase }, { on := 4, ground := Ground.phase }, { on := 5, ground := Ground.phase }, { on := 6, ground := Ground.phase }, { on := 7, ground := Ground.phase }, { on := 8, ground := Ground.phase }, { on := 9, ground := Ground.phase }, { on := 10, ground := Ground.phase }, { on := 11, ground := Ground.phase }, { on := 12, ground := Ground.phase }, { on := 13, ground := Ground.phase }, { on := 14, ground := Ground.phase }, { on := 15, ground := Ground.phase }, { on := 16, ground := Ground.phase }, { on := 17, ground := Ground.phase }, { on := 18, ground := Ground.phase }, { on := 19, ground := Ground.phase }, { on := 20, ground := Ground.phase }, { on := 21, ground := Ground.phase }, { on := 22, ground := Ground.phase }, { on := 23, ground := Ground.phase }], guard := none }) rfl (fun K hK => ?_) AllReadyH.nil
        rw [if_pos (by rfl)]
        rw [HW3.out, HW10.out, HW11.out]
        refine wp_store_row _ _ _ rfl wn3111.heap.size #[.int .u32 (CrcM.number (l.take 4) : Nat), .int .u32 (CrcM.number ((l.drop 4).take 4) : Nat), .int .i64 (CrcM.number ((l.drop 8).take 2) : Nat), .int .i64 (l[10].toNat : Int), .int .i64 (l[11].toNat : Int), .slice Ak3142 32 ck3142] rfl rfl _ _ BX3137_3142.out (by kernel_rfl) (by rfl) (by simp [Value.oneCell']) ?_
        have hS3144 : Below (w0.heap.size) w0 (wn3142.setRow wn3111.heap.size #[.int .u32 (CrcM.number (l.take 4) : Nat), .int .u32 (CrcM.number ((l.drop 4).take 4) : Nat), .int .i64 (CrcM.number ((l.drop 8).take 2) : Nat), .int .i64 (l[10].toNat : Int), .int .i64 (l[11].toNat : Int), .slice Ak3142 32 ck3142]) := (below_setRow2 (hH3142) GE3137.out _)
        refine hK.out _ _ hS3144 (fun hH3144 => ?_)
        have hH3144 : Below (w0.heap.size) w0 (wn3142.setRow wn3111.heap.size #[.int .u32 (CrcM.number (l.take 4) : Nat), .int .u32 (CrcM.number ((l.drop 4).take 4) : Nat), .int .i64 (CrcM.number ((l.drop 8).take 2) : Nat), .int .i64 (l[10].toNat : Int), .int .i64 (l[11].toNat : Int), .slice Ak3142 32 ck3142]) := hH3144
        clear hK K hS3144
        refine wpAnyH_done (by kernel_rfl) ?_ _
        refine NoPanic.normal ?_
        have HBX := Lib.hid (setRow_heap _ _ _ #[.int .u32 (CrcM.number (l.take 4) : Nat), .int .u32 (CrcM.number ((l.drop 4).take 4) : Nat), .int .i64 (CrcM.number ((l.drop 8).take 2) : Nat), .int .i64 (l[10].toNat : Int), .int .i64 (l[11].toNat : Int), .slice Ak3142 32 ck3142] _ _ BX3137_3142.out)
        have HRW := Lib.hid ((RK3142_.out.keep (Nat.le_of_eq (setRow_size _ _ _).symm) fun b hb _ => setRow_other _ _ _ #[.int .u32 (CrcM.number (l.take 4) : Nat), .int .u32 (CrcM.number ((l.drop 4).take 4) : Nat), .int .i64 (CrcM.number ((l.drop 8).take 2) : Nat), .int .i64 (l[10].toNat : Int), .int .i64 (l[11].toNat : Int), .slice Ak3142 32 ck3142] hb.2).imp (P' := fun b => w.heap.size < b) fun b _ hb => hb.1)
        go_wp2_with fail
        go_meet
        exact ⟨_, _, _, rfl, HBX, HRW, Lib.hid (hH3144)⟩
    · go_simp
      have hb3145 : Below wd3000.heap.size wd3000 (wd3000.alloc (.cells #[.int .u32 0, .int .u32 0, .int .i64 0, .int .i64 0, .int .i64 0, .slice none 0 0] 28)) := (Below.refl _ _).alloc (Nat.le_refl _) _
      have BX3145 : Hid ((wd3000.alloc (.cells #[.int .u32 0, .int .u32 0, .int .i64 0, .int .i64 0, .int .i64 0, .slice none 0 0] 28)).heap[wd3000.heap.size]? = some (.cells #[.int .u32 0, .int .u32 0, .int .i64 0, .int .i64 0, .int .i64 0, .slice none 0 0] 28 (0, 0))) := Lib.hid (heap_alloc_new _ _)
      have LX3145 : Hid (wd3000.heap.size < (wd3000.alloc (.cells #[.int .u32 0, .int .u32 0, .int .i64 0, .int .i64 0, .int .i64 0, .slice none 0 0] 28)).heap.size) := Lib.hid (by simp)
      have GE3145 : Hid (w0.heap.size ≤ wd3000.heap.size) := Lib.hid (hH0).size
      generalize (wd3000.alloc (.cells #[.int .u32 0, .int .u32 0, .int .i64 0, .int .i64 0, .int .i64 0, .slice none 0 0] 28)) = wn3145 at *
      have hS3145 : Below (w0.heap.size) w0 wn3145 := (hH0).trans (hb3145.mono (hH0).size)
      refine hK.out _ _ hS3145 (fun hH3145 => ?_)
      have hH3145 : Below (w0.heap.size) w0 wn3145 := hH3145
      clear hK K hS3145
      try simp only [Act.put, List.setIfInBounds_toArray, List.set_cons_zero, List.set_cons_succ]
      refine wpAnyH_ready (rs := [2, 20]) (by kernel_rfl) (by simp) ?_
      refine AllReadyH.cons (o := { dst := some 11, op := Op.call { callee := Callee.value (Operand.func 39), args := #[Operand.tmp 10], argTypes := #[23] }, type := 22, pos := "ref.go:298", after := #[{ on := 1, ground := Ground.data }], guard := none }) rfl (fun K hK => ?_) (AllReadyH.cons (o := { dst := some 29, op := Op.buildSlice 69 1 #[(0, Operand.tmp 28)], type := 69, pos := "ref.go:298", after := #[{ on := 19, ground := Ground.data }], guard := none }) rfl (fun K hK => ?_) AllReadyH.nil)
      · go_simp
        refine (r1num_any 4 w0.heap.size _ _ _ wn3145 (HQ1.out wn3145 (hH3145)) (by omega)).mono ?_
        rintro e' _ ⟨rfl, rfl⟩
        go_simp
        have hS3146 : Below (w0.heap.size) w0 wn3145 := hH3145
        refine hK.out _ _ hS3146 (fun hH3146 => ?_)
        have hH3146 : Below (w0.heap.size) w0 wn3145 := hH3146
        clear hK K hS3146
        try simp only [Act.put, List.setIfInBounds_toArray, List.set_cons_zero, List.set_cons_succ]
        refine wpAnyH_ready (rs := [5, 20]) (by kernel_rfl) (by simp) ?_
        refine AllReadyH.cons (o := { dst := some 14, op := Op.call { callee := Callee.value (Operand.func 39), args := #[Operand.tmp 13], argTypes := #[23] }, type := 22, pos := "ref.go:298", after := #[{ on := 4, ground := Ground.data }, { on := 2, ground := Ground.chain }], guard := none }) rfl (fun K hK => ?_) (AllReadyH.cons (o := { dst := some 29, op := Op.buildSlice 69 1 #[(0, Operand.tmp 28)], type := 69, pos := "ref.go:298", after := #[{ on := 19, ground := Ground.data }], guard := none }) rfl (fun K hK => ?_) AllReadyH.nil)
        · go_simp
          refine (r1num_any 4 w0.heap.size _ _ _ wn3145 (HQ2.out wn3145 (hH3146)) (by omega)).mono ?_
          rintro e' _ ⟨rfl, rfl⟩
          go_simp
          have hS3147 : Below (w0.heap.size) w0 wn3145 := hH3146
          refine hK.out _ _ hS3147 (fun hH3147 => ?_)
          have hH3147 : Below (w0.heap.size) w0 wn3145 := hH3147
          clear hK K hS3147
          try simp only [Act.put, List.setIfInBounds_toArray, List.set_cons_zero, List.set_cons_succ]
          refine wpAnyH_ready (rs := [8, 20]) (by kernel_rfl) (by simp) ?_
          refine AllReadyH.cons (o := { dst := some 17, op := Op.call { callee := Callee.value (Operand.func 39), args := #[Operand.tmp 16], argTypes := #[23] }, type := 22, pos := "ref.go:298", after := #[{ on := 7, ground := Ground.data }, { on := 5, ground := Ground.chain }], guard := none }) rfl (fun K hK => ?_) (AllReadyH.cons (o := { dst := some 29, op := Op.buildSlice 69 1 #[(0, Operand.tmp 28)], type := 69, pos := "ref.go:298", after := #[{ on := 19, ground := Ground.data }], guard := none }) rfl (fun K hK => ?_) AllReadyH.nil)
          · go_simp
            refine (r1num_any 2 w0.heap.size _ _ _ wn3145 (HQ3.out wn3145 (hH3147)) (by omega)).mono ?_
            rintro e' _ ⟨rfl, rfl⟩
            go_simp
            have hS3148 : Below (w0.heap.size) w0 wn3145 := hH3147
            refine hK.out _ _ hS3148 (fun hH3148 => ?_)
            have hH3148 : Below (w0.heap.size) w0 wn3145 := hH3148
            clear hK K hS3148
            try simp only [Act.put, List.setIfInBounds_toArray, List.set_cons_zero, List.set_cons_succ]
            refine wpAnyH_take (i := 9) (oi := { dst := some 18, op := Op.convert 22 3 (Operand.tmp 17), type := 3, pos := "ref.go:298", after := #[{ on := 8, ground := Ground.data }], guard := none }) (v := ?tkv3149) rfl (by kernel_rfl) (by kernel_rfl) (by kernel_rfl) (fun _ _ _ h => h) (Or.inl ⟨by rfl, ?tky3149⟩) hH3148 ?tkr3149
            case tky3149 => (intro w' hSw; have z0 := HC.out _ hSw; clear hSw; go_simp; try with_reducible rfl)
            try simp only [Act.put, List.setIfInBounds_toArray, List.set_cons_zero, List.set_cons_succ]
            refine wpAnyH_ready (rs := [20]) (by kernel_rfl) (by simp) ?_
            refine AllReadyH.cons (o := { dst := some 29, op := Op.buildSlice 69 1 #[(0, Operand.tmp 28)], type := 69, pos := "ref.go:298", after := #[{ on := 19, ground := Ground.data }], guard := none }) rfl (fun K hK => ?_) AllReadyH.nil
            go_simp
            have hb3150 : Below wn3145.heap.size wn3145 (wn3145.alloc (.cells #[.slice (some ⟨b, o + 12, none⟩) 32 (c - 12)] 23)) := (Below.refl _ _).alloc (Nat.le_refl _) _
            have BX3150 : Hid ((wn3145.alloc (.cells #[.slice (some ⟨b, o + 12, none⟩) 32 (c - 12)] 23)).heap[wn3145.heap.size]? = some (.cells #[.slice (some ⟨b, o + 12, none⟩) 32 (c - 12)] 23 (0, 0))) := Lib.hid (heap_alloc_new _ _)
            have LX3150 : Hid (wn3145.heap.size < (wn3145.alloc (.cells #[.slice (some ⟨b, o + 12, none⟩) 32 (c - 12)] 23)).heap.size) := Lib.hid (by simp)
            generalize (wn3145.alloc (.cells #[.slice (some ⟨b, o + 12, none⟩) 32 (c - 12)] 23)) = wn3150 at *
            have BX3145_3150 := Lib.hid ((hb3150.block wd3000.heap.size LX3145.out).trans BX3145.out)
            have LX3145_3150 := Lib.hid (Nat.lt_of_lt_of_le LX3145.out hb3150.size)
            have hS3150 : Below (w0.heap.size) w0 wn3150 := (hH3148).trans (hb3150.mono (hH3148).size)
            refine hK.out _ _ hS3150 (fun hH3150 => ?_)
            have hH3150 : Below (w0.heap.size) w0 wn3150 := hH3150
            clear hK K hS3150
            try simp only [Act.put, List.setIfInBounds_toArray, List.set_cons_zero, List.set_cons_succ]
            refine wpAnyH_ready (rs := [21]) (by kernel_rfl) (by simp) ?_
            refine AllReadyH.cons (o := { dst := some 30, op := Op.call { callee := Callee.value (Operand.func 24), args := #[Operand.tmp 29], argTypes := #[69] }, type := 23, pos := "ref.go:298", after := #[{ on := 20, ground := Ground.data }, { on := 8, ground := Ground.chain }], guard := none }) rfl (fun K hK => ?_) AllReadyH.nil
            go_simp
            refine (join_box [⟨some ⟨b, o + 12, none⟩, 32, c - 12, l.drop 12⟩] 1 rfl rfl BX3150.out (by
              intro r hr
              simp only [List.mem_cons, List.not_mem_nil, or_false] at hr
              subst hr
              exact RowP.of_row ((HQ4.out wn3150 (hH3150)).more (hH3150).size)) (by simp) (by have := HL.out; simp [flat]; omega) (l := l.drop 12) (by simp [flat])).mono ?_
            rintro e' wn3151 ⟨Ak3151, nk3151, ck3151, rfl, hn3151, ho3151, hb3151⟩
            have hn23151 := hn3151.out
            rw [HD12.out] at hn23151
            subst hn23151
            have RK3151_ : Hid (RowP wn3151 (fun b => w.heap.size < b ∧ b ≠ wd3000.heap.size) Ak3151 32 (bv (l.drop 12))) := Lib.hid (own_rowQ ho3151 LX3145_3150.out (Nat.lt_of_lt_of_le LW.out (hH3150).size))
            clear ho3151 hn3151
            go_simp
            have BX3145_3151 := Lib.hid ((hb3151.block wd3000.heap.size LX3145_3150.out).trans BX3145_3150.out)
            have LX3145_3151 := Lib.hid (Nat.lt_of_lt_of_le LX3145_3150.out hb3151.size)
            have BX3150_3151 := Lib.hid ((hb3151.block wn3145.heap.size LX3150.out).trans BX3150.out)
            have LX3150_3151 := Lib.hid (Nat.lt_of_lt_of_le LX3150.out hb3151.size)
            have hS3151 : Below (w0.heap.size) w0 wn3151 := (hH3150).trans (hb3151.mono (hH3150).size)
            refine hK.out _ _ hS3151 (fun hH3151 => ?_)
            have hH3151 : Below (w0.heap.size) w0 wn3151 := hH3151
            clear hK K hS3151
            try simp only [Act.put, List.setIfInBounds_toArray, List.set_cons_zero, List.set_cons_succ]
            refine wpAnyH_take (i := 22) (oi := { dst := some 31, op := Op.build 28 #[(0, Operand.tmp 11), (1, Operand.tmp 14), (2, Operand.tmp 18), (3, Operand.tmp 22), (4, Operand.tmp 26), (5, Operand.tmp 30)], type := 28, pos := "ref.go:298", after := #[{ on := 2, ground := Ground.data }, { on := 5, ground := Ground.data }, { on := 9, ground := Ground.data }, { on := 13, ground := Ground.data }, { on := 17, ground := Ground.data }, { on := 21, ground := Ground.data }], guard := none }) (v := ?tkv3152) rfl (by kernel_rfl) (by kernel_rfl) (by kernel_rfl) (fun _ _ _ h => h) (Or.inl ⟨by rfl, ?tky3152⟩) hH3151 ?tkr3152
            case tky3152 => (intro w' hSw; clear hSw; go_simp; try with_reducible rfl)
            try simp only [Act.put, List.setIfInBounds_toArray, List.set_cons_zero, List.set_cons_succ]
            refine wpAnyH_ready (rs := [24]) (by kernel_rfl) (by simp) ?_
            refine AllReadyH.cons (o := { dst := none, op := Op.store 28 (Operand.tmp 4) (Operand.tmp 31), type := 0, pos := "ref.go:298", after := #[{ on := 23, ground := Ground.data }, { on := 22, ground := Ground.data }, { on := 21, ground := Ground.chain }, { on := 0, ground := Ground.phase }, { on := 1, ground := Ground.phase }, { on := 2, ground := Ground.phase }, { on := 3, ground := Ground.phase }, { on := 4, ground := Ground.phase }, { on := 5, ground := Ground.phase }, { on := 6, ground := Ground.phase }, { on := 7, ground := Ground.phase }, { on := 8, ground := Ground.phase }, { on := 9, ground := Ground.phase }, { on := 10, ground := Ground.phase }, { on := 11, ground := Ground.phase }, { on := 12, ground := Ground.phase }, { on := 13, ground := Ground.phase }, { on := 14, ground := Ground.phase }, { on := 15, ground := Ground.phase }, { on := 16, ground := Ground.phase }, { on := 17, ground := Ground.phase }, { on := 18, ground := Ground.phase }, { on := 19, ground := Ground.phase }, { on := 20, ground := Ground.phase }, { on := 21, ground := Ground.phase }, { on := 22, ground := Ground.phase }, { on := 23, ground := Ground.phase }], guard := none }) rfl (fun K hK => ?_) AllReadyH.nil
            rw [if_pos (by rfl)]
            rw [HW3.out, HW10.out, HW11.out]
            refine wp_store_row _ _ _ rfl wd3000.heap.size #[.int .u32 (CrcM.number (l.take 4) : Nat), .int .u32 (CrcM.number ((l.drop 4).take 4) : Nat), .int .i64 (CrcM.number ((l.drop 8).take 2) : Nat), .int .i64 (l[10].toNat : Int), .int .i64 (l[11].toNat : Int), .slice Ak3151 32 ck3151] rfl rfl _ _ BX3145_3151.out (by kernel_rfl) (by rfl) (by simp [Value.oneCell']) ?_
            have hS3153 : Below (w0.heap.size) w0 (wn3151.setRow wd3000.heap.size #[.int .u32 (CrcM.number (l.take 4) : Nat), .int .u32 (CrcM.number ((l.drop 4).take 4) : Nat), .int .i64 (CrcM.number ((l.drop 8).take 2) : Nat), .int .i64 (l[10].toNat : Int), .int .i64 (l[11].toNat : Int), .slice Ak3151 32 ck3151]) := (below_setRow2 (hH3151) GE3145.out _)
            refine hK.out _ _ hS3153 (fun hH3153 => ?_)
            have hH3153 : Below (w0.heap.size) w0 (wn3151.setRow wd3000.heap.size #[.int .u32 (CrcM.number (l.take 4) : Nat), .int .u32 (CrcM.number ((l.drop 4).take 4) : Nat), .int .i64 (CrcM.number ((l.drop 8).take 2) : Nat), .int .i64 (l[10].toNat : Int), .int .i64 (l[11].toNat : Int), .slice Ak3151 32 ck3151]) := hH3153
            clear hK K hS3153
            refine wpAnyH_done (by kernel_rfl) ?_ _
            refine NoPanic.normal ?_
            have HBX := Lib.hid (setRow_heap _ _ _ #[.int .u32 (CrcM.number (l.take 4) : Nat), .int .u32 (CrcM.number ((l.drop 4).take 4) : Nat), .int .i64 (CrcM.number ((l.drop 8).take 2) : Nat), .int .i64 (l[10].toNat : Int), .int .i64 (l[11].toNat : Int), .slice Ak3151 32 ck3151] _ _ BX3145_3151.out)
            have HRW := Lib.hid ((RK3151_.out.keep (Nat.le_of_eq (setRow_size _ _ _).symm) fun b hb _ => setRow_other _ _ _ #[.int .u32 (CrcM.number (l.take 4) : Nat), .int .u32 (CrcM.number ((l.drop 4).take 4) : Nat), .int .i64 (CrcM.number ((l.drop 8).take 2) : Nat), .int .i64 (l[10].toNat : Int), .int .i64 (l[11].toNat : Int), .slice Ak3151 32 ck3151] hb.2).imp (P' := fun b => w.heap.size < b) fun b _ hb => hb.1)
            go_wp2_with fail
            go_meet
            exact ⟨_, _, _, rfl, HBX, HRW, Lib.hid (hH3153)⟩
          · go_simp
            have hb3154 : Below wn3145.heap.size wn3145 (wn3145.alloc (.cells #[.slice (some ⟨b, o + 12, none⟩) 32 (c - 12)] 23)) := (Below.refl _ _).alloc (Nat.le_refl _) _
            have BX3154 : Hid ((wn3145.alloc (.cells #[.slice (some ⟨b, o + 12, none⟩) 32 (c - 12)] 23)).heap[wn3145.heap.size]? = some (.cells #[.slice (some ⟨b, o + 12, none⟩) 32 (c - 12)] 23 (0, 0))) := Lib.hid (heap_alloc_new _ _)
            have LX3154 : Hid (wn3145.heap.size < (wn3145.alloc (.cells #[.slice (some ⟨b, o + 12, none⟩) 32 (c - 12)] 23)).heap.size) := Lib.hid (by simp)
            generalize (wn3145.alloc (.cells #[.slice (some ⟨b, o + 12, none⟩) 32 (c - 12)] 23)) = wn3154 at *
            have BX3145_3154 := Lib.hid ((hb3154.block wd3000.heap.size LX3145.out).trans BX3145.out)
            have LX3145_3154 := Lib.hid (Nat.lt_of_lt_of_le LX3145.out hb3154.size)
            have hS3154 : Below (w0.heap.size) w0 wn3154 := (hH3147).trans (hb3154.mono (hH3147).size)
            refine hK.out _ _ hS3154 (fun hH3154 => ?_)
            have hH3154 : Below (w0.heap.size) w0 wn3154 := hH3154
            clear hK K hS3154
            try simp only [Act.put, List.setIfInBounds_toArray, List.set_cons_zero, List.set_cons_succ]
            refine wpAnyH_ready (rs := [8]) (by kernel_rfl) (by simp) ?_
            refine AllReadyH.cons (o := { dst := some 17, op := Op.call { callee := Callee.value (Operand.func 39), args := #[Operand.tmp 16], argTypes := #[23] }, type := 22, pos := "ref.go:298", after := #[{ on := 7, ground := Ground.data }, { on := 5, ground := Ground.chain }], guard := none }) rfl (fun K hK => ?_) AllReadyH.nil
            go_simp
            refine (r1num_any 2 w0.heap.size _ _ _ wn3154 (HQ3.out wn3154 (hH3154)) (by omega)).mono ?_
            rintro e' _ ⟨rfl, rfl⟩
            go_simp
            have hS3155 : Below (w0.heap.size) w0 wn3154 := hH3154
            refine hK.out _ _ hS3155 (fun hH3155 => ?_)
            have hH3155 : Below (w0.heap.size) w0 wn3154 := hH3155
            clear hK K hS3155
            try simp only [Act.put, List.setIfInBounds_toArray, List.set_cons_zero, List.set_cons_succ]
            refine wpAnyH_take (i := 9) (oi := { dst := some 18, op := Op.convert 22 3 (Operand.tmp 17), type := 3, pos := "ref.go:298", after := #[{ on := 8, ground := Ground.data }], guard := none }) (v := ?tkv3156) rfl (by kernel_rfl) (by kernel_rfl) (by kernel_rfl) (fun _ _ _ h => h) (Or.inl ⟨by rfl, ?tky3156⟩) hH3155 ?tkr3156
            case tky3156 => (intro w' hSw; have z0 := HC.out _ hSw; clear hSw; go_simp; try with_reducible rfl)
            try simp only [Act.put, List.setIfInBounds_toArray, List.set_cons_zero, List.set_cons_succ]
            refine wpAnyH_ready (rs := [21]) (by kernel_rfl) (by simp) ?_
            refine AllReadyH.cons (o := { dst := some 30, op := Op.call { callee := Callee.value (Operand.func 24), args := #[Operand.tmp 29], argTypes := #[69] }, type := 23, pos := "ref.go:298", after := #[{ on := 20, ground := Ground.data }, { on := 8, ground := Ground.chain }], guard := none }) rfl (fun K hK => ?_) AllReadyH.nil
            go_simp
            refine (join_box [⟨some ⟨b, o + 12, none⟩, 32, c - 12, l.drop 12⟩] 1 rfl rfl BX3154.out (by
              intro r hr
              simp only [List.mem_cons, List.not_mem_nil, or_false] at hr
              subst hr
              exact RowP.of_row ((HQ4.out wn3154 (hH3155)).more (hH3155).size)) (by simp) (by have := HL.out; simp [flat]; omega) (l := l.drop 12) (by simp [flat])).mono ?_
            rintro e' wn3157 ⟨Ak3157, nk3157, ck3157, rfl, hn3157, ho3157, hb3157⟩
            have hn23157 := hn3157.out
            rw [HD12.out] at hn23157
            subst hn23157
            have RK3157_ : Hid (RowP wn3157 (fun b => w.heap.size < b ∧ b ≠ wd3000.heap.size) Ak3157 32 (bv (l.drop 12))) := Lib.hid (own_rowQ ho3157 LX3145_3154.out (Nat.lt_of_lt_of_le LW.out (hH3155).size))
            clear ho3157 hn3157
            go_simp
            have BX3145_3157 := Lib.hid ((hb3157.block wd3000.heap.size LX3145_3154.out).trans BX3145_3154.out)
            have LX3145_3157 := Lib.hid (Nat.lt_of_lt_of_le LX3145_3154.out hb3157.size)
            have BX3154_3157 := Lib.hid ((hb3157.block wn3145.heap.size LX3154.out).trans BX3154.out)
            have LX3154_3157 := Lib.hid (Nat.lt_of_lt_of_le LX3154.out hb3157.size)
            have hS3157 : Below (w0.heap.size) w0 wn3157 := (hH3155).trans (hb3157.mono (hH3155).size)
            refine hK.out _ _ hS3157 (fun hH3157 => ?_)
            have hH3157 : Below (w0.heap.size) w0 wn3157 := hH3157
            clear hK K hS3157
            try simp only [Act.put, List.setIfInBounds_toArray, List.set_cons_zero, List.set_cons_succ]
            refine wpAnyH_take (i := 22) (oi := { dst := some 31, op := Op.build 28 #[(0, Operand.tmp 11), (1, Operand.tmp 14), (2, Operand.tmp 18), (3, Operand.tmp 22), (4, Operand.tmp 26), (5, Operand.tmp 30)], type := 28, pos := "ref.go:298", after := #[{ on := 2, ground := Ground.data }, { on := 5, ground := Ground.data }, { on := 9, ground := Ground.data }, { on := 13, ground := Ground.data }, { on := 17, ground := Ground.data }, { on := 21, ground := Ground.data }], guard := none }) (v := ?tkv3158) rfl (by kernel_rfl) (by kernel_rfl) (by kernel_rfl) (fun _ _ _ h => h) (Or.inl ⟨by rfl, ?tky3158⟩) hH3157 ?tkr3158
            case tky3158 => (intro w' hSw; clear hSw; go_simp; try with_reducible rfl)
            try simp only [Act.put, List.setIfInBounds_toArray, List.set_cons_zero, List.set_cons_succ]
            refine wpAnyH_ready (rs := [24]) (by kernel_rfl) (by simp) ?_
            refine AllReadyH.cons (o := { dst := none, op := Op.store 28 (Operand.tmp 4) (Operand.tmp 31), type := 0, pos := "ref.go:298", after := #[{ on := 23, ground := Ground.data }, { on := 22, ground := Ground.data }, { on := 21, ground := Ground.chain }, { on := 0, ground := Ground.phase }, { on := 1, ground := Ground.phase }, { on := 2, ground := Ground.phase }, { on := 3, ground := Ground.phase }, { on := 4, ground := Ground.phase }, { on := 5, ground := Ground.phase }, { on := 6, ground := Ground.phase }, { on := 7, ground := Ground.phase }, { on := 8, ground := Ground.phase }, { on := 9, ground := Ground.phase }, { on := 10, ground := Ground.phase }, { on := 11, ground := Ground.phase }, { on := 12, ground := Ground.phase }, { on := 13, ground := Ground.phase }, { on := 14, ground := Ground.phase }, { on := 15, ground := Ground.phase }, { on := 16, ground := Ground.phase }, { on := 17, ground := Ground.phase }, { on := 18, ground := Ground.phase }, { on := 19, ground := Ground.phase }, { on := 20, ground := Ground.phase }, { on := 21, ground := Ground.phase }, { on := 22, ground := Ground.phase }, { on := 23, ground := Ground.phase }], guard := none }) rfl (fun K hK => ?_) AllReadyH.nil
            rw [if_pos (by rfl)]
            rw [HW3.out, HW10.out, HW11.out]
            refine wp_store_row _ _ _ rfl wd3000.heap.size #[.int .u32 (CrcM.number (l.take 4) : Nat), .int .u32 (CrcM.number ((l.drop 4).take 4) : Nat), .int .i64 (CrcM.number ((l.drop 8).take 2) : Nat), .int .i64 (l[10].toNat : Int), .int .i64 (l[11].toNat : Int), .slice Ak3157 32 ck3157] rfl rfl _ _ BX3145_3157.out (by kernel_rfl) (by rfl) (by simp [Value.oneCell']) ?_
            have hS3159 : Below (w0.heap.size) w0 (wn3157.setRow wd3000.heap.size #[.int .u32 (CrcM.number (l.take 4) : Nat), .int .u32 (CrcM.number ((l.drop 4).take 4) : Nat), .int .i64 (CrcM.number ((l.drop 8).take 2) : Nat), .int .i64 (l[10].toNat : Int), .int .i64 (l[11].toNat : Int), .slice Ak3157 32 ck3157]) := (below_setRow2 (hH3157) GE3145.out _)
            refine hK.out _ _ hS3159 (fun hH3159 => ?_)
            have hH3159 : Below (w0.heap.size) w0 (wn3157.setRow wd3000.heap.size #[.int .u32 (CrcM.number (l.take 4) : Nat), .int .u32 (CrcM.number ((l.drop 4).take 4) : Nat), .int .i64 (CrcM.number ((l.drop 8).take 2) : Nat), .int .i64 (l[10].toNat : Int), .int .i64 (l[11].toNat : Int), .slice Ak3157 32 ck3157]) := hH3159
            clear hK K hS3159
            refine wpAnyH_done (by kernel_rfl) ?_ _
            refine NoPanic.normal ?_
            have HBX := Lib.hid (setRow_heap _ _ _ #[.int .u32 (CrcM.number (l.take 4) : Nat), .int .u32 (CrcM.number ((l.drop 4).take 4) : Nat), .int .i64 (CrcM.number ((l.drop 8).take 2) : Nat), .int .i64 (l[10].toNat : Int), .int .i64 (l[11].toNat : Int), .slice Ak3157 32 ck3157] _ _ BX3145_3157.out)
            have HRW := Lib.hid ((RK3157_.out.keep (Nat.le_of_eq (setRow_size _ _ _).symm) fun b hb _ => setRow_other _ _ _ #[.int .u32 (CrcM.number (l.take 4) : Nat), .int .u32 (CrcM.number ((l.drop 4).take 4) : Nat), .int .i64 (CrcM.number ((l.drop 8).take 2) : Nat), .int .i64 (l[10].toNat : Int), .int .i64 (l[11].toNat : Int), .slice Ak3157 32 ck3157] hb.2).imp (P' := fun b => w.heap.size < b) fun b _ hb => hb.1)
            go_wp2_with fail
            go_meet
            exact ⟨_, _, _, rfl, HBX, HRW, Lib.hid (hH3159)⟩
        · go_simp
          have hb3160 : Below wn3145.heap.size wn3145 (wn3145.alloc (.cells #[.slice (some ⟨b, o + 12, none⟩) 32 (c - 12)] 23)) := (Below.refl _ _).alloc (Nat.le_refl _) _
          have BX3160 : Hid ((wn3145.alloc (.cells #[.slice (some ⟨b, o + 12, none⟩) 32 (c - 12)] 23)).heap[wn3145.heap.size]? = some (.cells #[.slice (some ⟨b, o + 12, none⟩) 32 (c - 12)] 23 (0, 0))) := Lib.hid (heap_alloc_new _ _)
          have LX3160 : Hid (wn3145.heap.size < (wn3145.alloc (.cells #[.slice (some ⟨b, o + 12, none⟩) 32 (c - 12)] 23)).heap.size) := Lib.hid (by simp)
          generalize (wn3145.alloc (.cells #[.slice (some ⟨b, o + 12, none⟩) 32 (c - 12)] 23)) = wn3160 at *
          have BX3145_3160 := Lib.hid ((hb3160.block wd3000.heap.size LX3145.out).trans BX3145.out)
          have LX3145_3160 := Lib.hid (Nat.lt_of_lt_of_le LX3145.out hb3160.size)
          have hS3160 : Below (w0.heap.size) w0 wn3160 := (hH3146).trans (hb3160.mono (hH3146).size)
          refine hK.out _ _ hS3160 (fun hH3160 => ?_)
          have hH3160 : Below (w0.heap.size) w0 wn3160 := hH3160
          clear hK K hS3160
          try simp only [Act.put, List.setIfInBounds_toArray, List.set_cons_zero, List.set_cons_succ]
          refine wpAnyH_ready (rs := [5]) (by kernel_rfl) (by simp) ?_
          refine AllReadyH.cons (o := { dst := some 14, op := Op.call { callee := Callee.value (Operand.func 39), args := #[Operand.tmp 13], argTypes := #[23] }, type := 22, pos := "ref.go:298", after := #[{ on := 4, ground := Ground.data }, { on := 2, ground := Ground.chain }], guard := none }) rfl (fun K hK => ?_) AllReadyH.nil
          go_simp
          refine (r1num_any 4 w0.heap.size _ _ _ wn3160 (HQ2.out wn3160 (hH3160)) (by omega)).mono ?_
          rintro e' _ ⟨rfl, rfl⟩
          go_simp
          have hS3161 : Below (w0.heap.size) w0 wn3160 := hH3160
          refine hK.out _ _ hS3161 (fun hH3161 => ?_)
          have hH3161 : Below (w0.heap.size) w0 wn3160 := hH3161
          clear hK K hS3161
          try simp only [Act.put, List.setIfInBounds_toArray, List.set_cons_zero, List.set_cons_succ]
          refine wpAnyH_ready (rs := [8]) (by kernel_rfl) (by simp) ?_
          refine AllReadyH.cons (o := { dst := some 17, op := Op.call { callee := Callee.value (Operand.func 39), args := #[Operand.tmp 16], argTypes := #[23] }, type := 22, pos := "ref.go:298", after := #[{ on := 7, ground := Ground.data }, { on := 5, ground := Ground.chain }], guard := none }) rfl (fun K hK => ?_) AllReadyH.nil
          go_simp
          refine (r1num_any 2 w0.heap.size _ _ _ wn3160 (HQ3.out wn3160 (hH3161)) (by omega)).mono ?_
          rintro e' _ ⟨rfl, rfl⟩
          go_simp
          have hS3162 : Below (w0.heap.size) w0 wn3160 := hH3161
          refine hK.out _ _ hS3162 (fun hH3162 => ?_)
          have hH3162 : Below (w0.heap.size) w0 wn3160 := hH3162
          clear hK K hS3162
          try simp only [Act.put, List.setIfInBounds_toArray, List.set_cons_zero, List.set_cons_succ]
          refine wpAnyH_take (i := 9) (oi := { dst := some 18, op := Op.convert 22 3 (Operand.tmp 17), type := 3, pos := "ref.go:298", after := #[{ on := 8, ground := Ground.data }], guard := none }) (v := ?tkv3163) rfl (by kernel_rfl) (by kernel_rfl) (by kernel_rfl) (fun _ _ _ h => h) (Or.inl ⟨by rfl, ?tky3163⟩) hH3162 ?tkr3163
          case tky3163 => (intro w' hSw; have z0 := HC.out _ hSw; clear hSw; go_simp; try with_reducible rfl)
          try simp only [Act.put, List.setIfInBounds_toArray, List.set_cons_zero, List.set_cons_succ]
          refine wpAnyH_ready (rs := [21]) (by kernel_rfl) (by simp) ?_
          refine AllReadyH.cons (o := { dst := some 30, op := Op.call { callee := Callee.value (Operand.func 24), args := #[Operand.tmp 29], argTypes := #[69] }, type := 23, pos := "ref.go:298", after := #[{ on := 20, ground := Ground.data }, { on := 8, ground := Ground.chain }], guard := none }) rfl (fun K hK => ?_) AllReadyH.nil
          go_simp
          refine (join_box [⟨some ⟨b, o + 12, none⟩, 32, c - 12, l.drop 12⟩] 1 rfl rfl BX3160.out (by
            intro r hr
            simp only [List.mem_cons, List.not_mem_nil, or_false] at hr
            subst hr
            exact RowP.of_row ((HQ4.out wn3160 (hH3162)).more (hH3162).size)) (by simp) (by have := HL.out; simp [flat]; omega) (l := l.drop 12) (by simp [flat])).mono ?_
          rintro e' wn3164 ⟨Ak3164, nk3164, ck3164, rfl, hn3164, ho3164, hb3164⟩
          have hn23164 := hn3164.out
          rw [HD12.out] at hn23164
          subst hn23164
          have RK3164_ : Hid (RowP wn3164 (fun b => w.heap.size < b ∧ b ≠ wd3000.heap.size) Ak3164 32 (bv (l.drop 12))) := Lib.hid (own_rowQ ho3164 LX3145_3160.out (Nat.lt_of_lt_of_le LW.out (hH3162).size))
          clear ho3164 hn3164
          go_simp
          have BX3145_3164 := Lib.hid ((hb3164.block wd3000.heap.size LX3145_3160.out).trans BX3145_3160.out)
          have LX3145_3164 := Lib.hid (Nat.lt_of_lt_of_le LX3145_3160.out hb3164.size)
          have BX3160_3164 := Lib.hid ((hb3164.block wn3145.heap.size LX3160.out).trans BX3160.out)
          have LX3160_3164 := Lib.hid (Nat.lt_of_lt_of_le LX3160.out hb3164.size)
          have hS3164 : Below (w0.heap.size) w0 wn3164 := (hH3162).trans (hb3164.mono (hH3162).size)
          refine hK.out _ _ hS3164 (fun hH3164 => ?_)
          have hH3164 : Below (w0.heap.size) w0 wn3164 := hH3164
          clear hK K hS3164
          try simp only [Act.put, List.setIfInBounds_toArray, List.set_cons_zero, List.set_cons_succ]
          refine wpAnyH_take (i := 22) (oi := { dst := some 31, op := Op.build 28 #[(0, Operand.tmp 11), (1, Operand.tmp 14), (2, Operand.tmp 18), (3, Operand.tmp 22), (4, Operand.tmp 26), (5, Operand.tmp 30)], type := 28, pos := "ref.go:298", after := #[{ on := 2, ground := Ground.data }, { on := 5, ground := Ground.data }, { on := 9, ground := Ground.data }, { on := 13, ground := Ground.data }, { on := 17, ground := Ground.data }, { on := 21, ground := Ground.data }], guard := none }) (v := ?tkv3165) rfl (by kernel_rfl) (by kernel_rfl) (by kernel_rfl) (fun _ _ _ h => h) (Or.inl ⟨by rfl, ?tky3165⟩) hH3164 ?tkr3165
          case tky3165 => (intro w' hSw; clear hSw; go_simp; try with_reducible rfl)
          try simp only [Act.put, List.setIfInBounds_toArray, List.set_cons_zero, List.set_cons_succ]
          refine wpAnyH_ready (rs := [24]) (by kernel_rfl) (by simp) ?_
          refine AllReadyH.cons (o := { dst := none, op := Op.store 28 (Operand.tmp 4) (Operand.tmp 31), type := 0, pos := "ref.go:298", after := #[{ on := 23, ground := Ground.data }, { on := 22, ground := Ground.data }, { on := 21, ground := Ground.chain }, { on := 0, ground := Ground.phase }, { on := 1, ground := Ground.phase }, { on := 2, ground := Ground.phase }, { on := 3, ground := Ground.phase }, { on := 4, ground := Ground.phase }, { on := 5, ground := Ground.phase }, { on := 6, ground := Ground.phase }, { on := 7, ground := Ground.phase }, { on := 8, ground := Ground.phase }, { on := 9, ground := Ground.phase }, { on := 10, ground := Ground.phase }, { on := 11, ground := Ground.phase }, { on := 12, ground := Ground.phase }, { on := 13, ground := Ground.phase }, { on := 14, ground := Ground.phase }, { on := 15, ground := Ground.phase }, { on := 16, ground := Ground.phase }, { on := 17, ground := Ground.phase }, { on := 18, ground := Ground.phase }, { on := 19, ground := Ground.phase }, { on := 20, ground := Ground.phase }, { on := 21, ground := Ground.phase }, { on := 22, ground := Ground.phase }, { on := 23, ground := Ground.phase }], guard := none }) rfl (fun K hK => ?_) AllReadyH.nil
          rw [if_pos (by rfl)]
          rw [HW3.out, HW10.out, HW11.out]
          refine wp_store_row _ _ _ rfl wd3000.heap.size #[.int .u32 (CrcM.number (l.take 4) : Nat), .int .u32 (CrcM.number ((l.drop 4).take 4) : Nat), .int .i64 (CrcM.number ((l.drop 8).take 2) : Nat), .int .i64 (l[10].toNat : Int), .int .i64 (l[11].toNat : Int), .slice Ak3164 32 ck3164] rfl rfl _ _ BX3145_3164.out (by kernel_rfl) (by rfl) (by simp [Value.oneCell']) ?_
          have hS3166 : Below (w0.heap.size) w0 (wn3164.setRow wd3000.heap.size #[.int .u32 (CrcM.number (l.take 4) : Nat), .int .u32 (CrcM.number ((l.drop 4).take 4) : Nat), .int .i64 (CrcM.number ((l.drop 8).take 2) : Nat), .int .i64 (l[10].toNat : Int), .int .i64 (l[11].toNat : Int), .slice Ak3164 32 ck3164]) := (below_setRow2 (hH3164) GE3145.out _)
          refine hK.out _ _ hS3166 (fun hH3166 => ?_)
          have hH3166 : Below (w0.heap.size) w0 (wn3164.setRow wd3000.heap.size #[.int .u32 (CrcM.number (l.take 4) : Nat), .int .u32 (CrcM.number ((l.drop 4).take 4) : Nat), .int .i64 (CrcM.number ((l.drop 8).take 2) : Nat), .int .i64 (l[10].toNat : Int), .int .i64 (l[11].toNat : Int), .slice Ak3164 32 ck3164]) := hH3166
          clear hK K hS3166
          refine wpAnyH_done (by kernel_rfl) ?_ _
          refine NoPanic.normal ?_
          have HBX := Lib.hid (setRow_heap _ _ _ #[.int .u32 (CrcM.number (l.take 4) : Nat), .int .u32 (CrcM.number ((l.drop 4).take 4) : Nat), .int .i64 (CrcM.number ((l.drop 8).take 2) : Nat), .int .i64 (l[10].toNat : Int), .int .i64 (l[11].toNat : Int), .slice Ak3164 32 ck3164] _ _ BX3145_3164.out)
          have HRW := Lib.hid ((RK3164_.out.keep (Nat.le_of_eq (setRow_size _ _ _).symm) fun b hb _ => setRow_other _ _ _ #[.int .u32 (CrcM.number (l.take 4) : Nat), .int .u32 (CrcM.number ((l.drop 4).take 4) : Nat), .int .i64 (CrcM.number ((l.drop 8).take 2) : Nat), .int .i64 (l[10].toNat : Int), .int .i64 (l[11].toNat : Int), .slice Ak3164 32 ck3164] hb.2).imp (P' := fun b => w.heap.size < b) fun b _ hb => hb.1)
          go_wp2_with fail
          go_meet
          exact ⟨_, _, _, rfl, HBX, HRW, Lib.hid (hH3166)⟩
      · go_simp
        have hb3167 : Below wn3145.heap.size wn3145 (wn3145.alloc (.cells #[.slice (some ⟨b, o + 12, none⟩) 32 (c - 12)] 23)) := (Below.refl _ _).alloc (Nat.le_refl _) _
        have BX3167 : Hid ((wn3145.alloc (.cells #[.slice (some ⟨b, o + 12, none⟩) 32 (c - 12)] 23)).heap[wn3145.heap.size]? = some (.cells #[.slice (some ⟨b, o + 12, none⟩) 32 (c - 12)] 23 (0, 0))) := Lib.hid (heap_alloc_new _ _)
        have LX3167 : Hid (wn3145.heap.size < (wn3145.alloc (.cells #[.slice (some ⟨b, o + 12, none⟩) 32 (c - 12)] 23)).heap.size) := Lib.hid (by simp)
        generalize (wn3145.alloc (.cells #[.slice (some ⟨b, o + 12, none⟩) 32 (c - 12)] 23)) = wn3167 at *
        have BX3145_3167 := Lib.hid ((hb3167.block wd3000.heap.size LX3145.out).trans BX3145.out)
        have LX3145_3167 := Lib.hid (Nat.lt_of_lt_of_le LX3145.out hb3167.size)
        have hS3167 : Below (w0.heap.size) w0 wn3167 := (hH3145).trans (hb3167.mono (hH3145).size)
        refine hK.out _ _ hS3167 (fun hH3167 => ?_)
        have hH3167 : Below (w0.heap.size) w0 wn3167 := hH3167
        clear hK K hS3167
        try simp only [Act.put, List.setIfInBounds_toArray, List.set_cons_zero, List.set_cons_succ]
        refine wpAnyH_ready (rs := [2]) (by kernel_rfl) (by simp) ?_
        refine AllReadyH.cons (o := { dst := some 11, op := Op.call { callee := Callee.value (Operand.func 39), args := #[Operand.tmp 10], argTypes := #[23] }, type := 22, pos := "ref.go:298", after := #[{ on := 1, ground := Ground.data }], guard := none }) rfl (fun K hK => ?_) AllReadyH.nil
        go_simp
        refine (r1num_any 4 w0.heap.size _ _ _ wn3167 (HQ1.out wn3167 (hH3167)) (by omega)).mono ?_
        rintro e' _ ⟨rfl, rfl⟩
        go_simp
        have hS3168 : Below (w0.heap.size) w0 wn3167 := hH3167
        refine hK.out _ _ hS3168 (fun hH3168 => ?_)
        have hH3168 : Below (w0.heap.size) w0 wn3167 := hH3168
        clear hK K hS3168
        try simp only [Act.put, List.setIfInBounds_toArray, List.set_cons_zero, List.set_cons_succ]
        refine wpAnyH_ready (rs := [5]) (by kernel_rfl) (by simp) ?_
        refine AllReadyH.cons (o := { dst := some 14, op := Op.call { callee := Callee.value (Operand.func 39), args := #[Operand.tmp 13], argTypes := #[23] }, type := 22, pos := "ref.go:298", after := #[{ on := 4, ground := Ground.data }, { on := 2, ground := Ground.chain }], guard := none }) rfl (fun K hK => ?_) AllReadyH.nil
        go_simp
        refine (r1num_any 4 w0.heap.size _ _ _ wn3167 (HQ2.out wn3167 (hH3168)) (by omega)).mono ?_
        rintro e' _ ⟨rfl, rfl⟩
        go_simp
        have hS3169 : Below (w0.heap.size) w0 wn3167 := hH3168
        refine hK.out _ _ hS3169 (fun hH3169 => ?_)
        have hH3169 : Below (w0.heap.size) w0 wn3167 := hH3169
        clear hK K hS3169
        try simp only [Act.put, List.setIfInBounds_toArray, List.set_cons_zero, List.set_cons_succ]
        refine wpAnyH_ready (rs := [8]) (by kernel_rfl) (by simp) ?_
        refine AllReadyH.cons (o := { dst := some 17, op := Op.call { callee := Callee.value (Operand.func 39), args := #[Operand.tmp 16], argTypes := #[23] }, type := 22, pos := "ref.go:298", after := #[{ on := 7, ground := Ground.data }, { on := 5, ground := Ground.chain }], guard := none }) rfl (fun K hK => ?_) AllReadyH.nil
        go_simp
        refine (r1num_any 2 w0.heap.size _ _ _ wn3167 (HQ3.out wn3167 (hH3169)) (by omega)).mono ?_
        rintro e' _ ⟨rfl, rfl⟩
        go_simp
        have hS3170 : Below (w0.heap.size) w0 wn3167 := hH3169
        refine hK.out _ _ hS3170 (fun hH3170 => ?_)
        have hH3170 : Below (w0.heap.size) w0 wn3167 := hH3170
        clear hK K hS3170
        try simp only [Act.put, List.setIfInBounds_toArray, List.set_cons_zero, List.set_cons_succ]
        refine wpAnyH_take (i := 9) (oi := { dst := some 18, op := Op.convert 22 3 (Operand.tmp 17), type := 3, pos := "ref.go:298", after := #[{ on := 8, ground := Ground.data }], guard := none }) (v := ?tkv3171) rfl (by kernel_rfl) (by kernel_rfl) (by kernel_rfl) (fun _ _ _ h => h) (Or.inl ⟨by rfl, ?tky3171⟩) hH3170 ?tkr3171
        case tky3171 => (intro w' hSw; have z0 := HC.out _ hSw; clear hSw; go_simp; try with_reducible rfl)
        try simp only [Act.put, List.setIfInBounds_toArray, List.set_cons_zero, List.set_cons_succ]
        refine wpAnyH_ready (rs := [21]) (by kernel_rfl) (by simp) ?_
        refine AllReadyH.cons (o := { dst := some 30, op := Op.call { callee := Callee.value (Operand.func 24), args := #[Operand.tmp 29], argTypes := #[69] }, type := 23, pos := "ref.go:298", after := #[{ on := 20, ground := Ground.data }, { on := 8, ground := Ground.chain }], guard := none }) rfl (fun K hK => ?_) AllReadyH.nil
        go_simp
        refine (join_box [⟨some ⟨b, o + 12, none⟩, 32, c - 12, l.drop 12⟩] 1 rfl rfl BX3167.out (by
          intro r hr
          simp only [List.mem_cons, List.not_mem_nil, or_false] at hr
          subst hr
          exact RowP.of_row ((HQ4.out wn3167 (hH3170)).more (hH3170).size)) (by simp) (by have := HL.out; simp [flat]; omega) (l := l.drop 12) (by simp [flat])).mono ?_
        rintro e' wn3172 ⟨Ak3172, nk3172, ck3172, rfl, hn3172, ho3172, hb3172⟩
        have hn23172 := hn3172.out
        rw [HD12.out] at hn23172
        subst hn23172
        have RK3172_ : Hid (RowP wn3172 (fun b => w.heap.size < b ∧ b ≠ wd3000.heap.size) Ak3172 32 (bv (l.drop 12))) := Lib.hid (own_rowQ ho3172 LX3145_3167.out (Nat.lt_of_lt_of_le LW.out (hH3170).size))
        clear ho3172 hn3172
        go_simp
        have BX3145_3172 := Lib.hid ((hb3172.block wd3000.heap.size LX3145_3167.out).trans BX3145_3167.out)
        have LX3145_3172 := Lib.hid (Nat.lt_of_lt_of_le LX3145_3167.out hb3172.size)
        have BX3167_3172 := Lib.hid ((hb3172.block wn3145.heap.size LX3167.out).trans BX3167.out)
        have LX3167_3172 := Lib.hid (Nat.lt_of_lt_of_le LX3167.out hb3172.size)
        have hS3172 : Below (w0.heap.size) w0 wn3172 := (hH3170).trans (hb3172.mono (hH3170).size)
        refine hK.out _ _ hS3172 (fun hH3172 => ?_)
        have hH3172 : Below (w0.heap.size) w0 wn3172 := hH3172
        clear hK K hS3172
        try simp only [Act.put, List.setIfInBounds_toArray, List.set_cons_zero, List.set_cons_succ]
        refine wpAnyH_take (i := 22) (oi := { dst := some 31, op := Op.build 28 #[(0, Operand.tmp 11), (1, Operand.tmp 14), (2, Operand.tmp 18), (3, Operand.tmp 22), (4, Operand.tmp 26), (5, Operand.tmp 30)], type := 28, pos := "ref.go:298", after := #[{ on := 2, ground := Ground.data }, { on := 5, ground := Ground.data }, { on := 9, ground := Ground.data }, { on := 13, ground := Ground.data }, { on := 17, ground := Ground.data }, { on := 21, ground := Ground.data }], guard := none }) (v := ?tkv3173) rfl (by kernel_rfl) (by kernel_rfl) (by kernel_rfl) (fun _ _ _ h => h) (Or.inl ⟨by rfl, ?tky3173⟩) hH3172 ?tkr3173
        case tky3173 => (intro w' hSw; clear hSw; go_simp; try with_reducible rfl)
        try simp only [Act.put, List.setIfInBounds_toArray, List.set_cons_zero, List.set_cons_succ]
        refine wpAnyH_ready (rs := [24]) (by kernel_rfl) (by simp) ?_
        refine AllReadyH.cons (o := { dst := none, op := Op.store 28 (Operand.tmp 4) (Operand.tmp 31), type := 0, pos := "ref.go:298", after := #[{ on := 23, ground := Ground.data }, { on := 22, ground := Ground.data }, { on := 21, ground := Ground.chain }, { on := 0, ground := Ground.phase }, { on := 1, ground := Ground.phase }, { on := 2, ground := Ground.phase }, { on := 3, ground := Ground.phase }, { on := 4, ground := Ground.phase }, { on := 5, ground := Ground.phase }, { on := 6, ground := Ground.phase }, { on := 7, ground := Ground.phase }, { on := 8, ground := Ground.phase }, { on := 9, ground := Ground.phase }, { on := 10, ground := Ground.phase }, { on := 11, ground := Ground.phase }, { on := 12, ground := Ground.phase }, { on := 13, ground := Ground.phase }, { on := 14, ground := Ground.phase }, { on := 15, ground := Ground.phase }, { on := 16, ground := Ground.phase }, { on := 17, ground := Ground.phase }, { on := 18, ground := Ground.phase }, { on := 19, ground := Ground.phase }, { on := 20, ground := Ground.phase }, { on := 21, ground := Ground.phase }, { on := 22, ground := Ground.phase }, { on := 23, ground := Ground.phase }], guard := none }) rfl (fun K hK => ?_) AllReadyH.nil
        rw [if_pos (by rfl)]
        rw [HW3.out, HW10.out, HW11.out]
        refine wp_store_row _ _ _ rfl wd3000.heap.size #[.int .u32 (CrcM.number (l.take 4) : Nat), .int .u32 (CrcM.number ((l.drop 4).take 4) : Nat), .int .i64 (CrcM.number ((l.drop 8).take 2) : Nat), .int .i64 (l[10].toNat : Int), .int .i64 (l[11].toNat : Int), .slice Ak3172 32 ck3172] rfl rfl _ _ BX3145_3172.out (by kernel_rfl) (by rfl) (by simp [Value.oneCell']) ?_
        have hS3174 : Below (w0.heap.size) w0 (wn3172.setRow wd3000.heap.size #[.int .u32 (CrcM.number (l.take 4) : Nat), .int .u32 (CrcM.number ((l.drop 4).take 4) : Nat), .int .i64 (CrcM.number ((l.drop 8).take 2) : Nat), .int .i64 (l[10].toNat : Int), .int .i64 (l[11].toNat : Int), .slice Ak3172 32 ck3172]) := (below_setRow2 (hH3172) GE3145.out _)
        refine hK.out _ _ hS3174 (fun hH3174 => ?_)
        have hH3174 : Below (w0.heap.size) w0 (wn3172.setRow wd3000.heap.size #[.int .u32 (CrcM.number (l.take 4) : Nat), .int .u32 (CrcM.number ((l.drop 4).take 4) : Nat), .int .i64 (CrcM.number ((l.drop 8).take 2) : Nat), .int .i64 (l[10].toNat : Int), .int .i64 (l[11].toNat : Int), .slice Ak3172 32 ck3172]) := hH3174
        clear hK K hS3174
        refine wpAnyH_done (by kernel_rfl) ?_ _
        refine NoPanic.normal ?_
        have HBX := Lib.hid (setRow_heap _ _ _ #[.int .u32 (CrcM.number (l.take 4) : Nat), .int .u32 (CrcM.number ((l.drop 4).take 4) : Nat), .int .i64 (CrcM.number ((l.drop 8).take 2) : Nat), .int .i64 (l[10].toNat : Int), .int .i64 (l[11].toNat : Int), .slice Ak3172 32 ck3172] _ _ BX3145_3172.out)
        have HRW := Lib.hid ((RK3172_.out.keep (Nat.le_of_eq (setRow_size _ _ _).symm) fun b hb _ => setRow_other _ _ _ #[.int .u32 (CrcM.number (l.take 4) : Nat), .int .u32 (CrcM.number ((l.drop 4).take 4) : Nat), .int .i64 (CrcM.number ((l.drop 8).take 2) : Nat), .int .i64 (l[10].toNat : Int), .int .i64 (l[11].toNat : Int), .slice Ak3172 32 ck3172] hb.2).imp (P' := fun b => w.heap.size < b) fun b _ hb => hb.1)
        go_wp2_with fail
        go_meet
        exact ⟨_, _, _, rfl, HBX, HRW, Lib.hid (hH3174)⟩
  case rest =>
    obtain ⟨g, A, c', rfl, hbx, hrw, hbl⟩ := hcut
    have e10 : (l.getD 10 0).toNat = l[10].toNat := by simp [List.getD, i10]
    have e11 : (l.getD 11 0).toNat = l[11].toNat := by simp [List.getD, i11]
    have hm : manRead l = ⟨CrcM.number (l.take 4), CrcM.number ((l.drop 4).take 4), (CrcM.number ((l.drop 8).take 2) : Nat), (l[10].toNat : Int), (l[11].toNat : Int), l.drop 12⟩ := by unfold manRead; rw [e10, e11]
    have HM := Lib.hid hm
    have HB := Lib.hid (B0.out.trans (hbl.out.mono B0.out.size))
    have X1 := Lib.hid ((hbl.out.block w.heap.size LW.out).trans X0.out)
    obtain ⟨wD, rfl⟩ : ∃ x : World, x = wc := ⟨_, rfl⟩
    clear hm e10 e11 HQ1 HQ2 HQ3 HQ4 HC HW3 HW10 HW11 q4 q8 q10 q12 n4 n8 n12 m4 m8 m12 b10 b11 HR B0 hbl X0
    go_wp2_with ((with_reducible show wpList _ _ _ _ _ _); refine wpList_load_row (o := ⟨some 32, _, _, _, _, _⟩) rfl _ (.tmp 4) rfl g rfl _ _ _ _ hbx.out Try.underlying28 rfl (by kernel_rfl) ?_)
    refine (rmanMay_any _ _ _ _ _ A 32 c' wD).mono ?_
    rintro e w2 ⟨rfl, hb2⟩
    have hmay : manB (CrcM.number ((l.drop 8).take 2) : Nat) (l[10].toNat : Int) (l[11].toNat : Int) 32 = (manRead l).may := by rw [HM.out, LMan.may, HD12.out]
    rw [hmay]
    have X2 := Lib.hid ((hb2.block w.heap.size (Array.getElem?_eq_some_iff.1 X1.out).1).trans X1.out)
    have Y2 := Lib.hid ((hb2.block g (Array.getElem?_eq_some_iff.1 hbx.out).1).trans hbx.out)
    have R2 := Lib.hid (hrw.out.below hb2)
    have B2 := Lib.hid (HB.out.trans (hb2.mono HB.out.size))
    clear hb2 X1 hbx hrw HB hmay
    cases hy : (manRead l).may with
    | false =>
      have hE : readE l = 3 := by unfold readE; rw [if_neg (by rw [hy]; simp)]
      have hM : readM l = LMan.zero := by unfold readM; rw [if_neg (by rw [hy]; simp)]
      have HE := Lib.hid hE
      have HMM := Lib.hid hM
      clear hE hM hy HM
      go_wp2_with ((with_reducible show wpList _ _ _ _ _ _); refine wpList_store_row rfl _ (.tmp 2) (.tmp 35) rfl (w.heap.size) #[.int .u32 0, .int .u32 0, .int .i64 0, .int .i64 0, .int .i64 0, .slice none 0 0] rfl rfl _ _ X2.out (by kernel_rfl) (by rfl) (by simp [Value.oneCell']) ?_)
      have hrow : (w2.setRow w.heap.size #[.int .u32 0, .int .u32 0, .int .i64 0, .int .i64 0, .int .i64 0, .slice none 0 0]).heap[w.heap.size]? = some (.cells #[.int .u32 0, .int .u32 0, .int .i64 0, .int .i64 0, .int .i64 0, .slice none 0 0] 28 (0, 0)) := setRow_heap _ _ _ _ _ _ X2.out
      refine bodyPost_ret (results_cell_tmp_row rfl _ _ (w.heap.size) _ _ (0, 0) _ rfl hrow Try.underlying28 rfl (by kernel_rfl)) rfl ?_
      rw [HE.out, HMM.out]
      exact ⟨_, rfl, Lib.hid ⟨none, 0, rfl, .nil _ _ _⟩, Lib.hid (below_setRow2 B2.out (Nat.le_refl _) _)⟩
    | true =>
      have hE : readE l = 0 := by unfold readE; rw [if_pos ⟨HL.out, hy⟩]
      have hM : readM l = manRead l := by unfold readM; rw [if_pos ⟨HL.out, hy⟩]
      have HE := Lib.hid hE
      have HMM := Lib.hid hM
      clear hE hM hy
      go_wp2_with (first
        | ((with_reducible show wpList _ _ _ _ _ _); refine wpList_load_row (o := ⟨some 36, _, _, _, _, _⟩) rfl _ (.tmp 4) rfl g rfl _ _ _ _ Y2.out Try.underlying28 rfl (by kernel_rfl) ?_)
        | ((with_reducible show wpList _ _ _ _ _ _); refine wpList_store_row rfl _ (.tmp 2) (.tmp 36) rfl (w.heap.size) #[.int .u32 (CrcM.number (l.take 4) : Nat), .int .u32 (CrcM.number ((l.drop 4).take 4) : Nat), .int .i64 (CrcM.number ((l.drop 8).take 2) : Nat), .int .i64 (l[10].toNat : Int), .int .i64 (l[11].toNat : Int), .slice A 32 c'] rfl rfl _ _ X2.out (by kernel_rfl) (by rfl) (by simp [Value.oneCell']) ?_))
      have hrow : (w2.setRow w.heap.size #[.int .u32 (CrcM.number (l.take 4) : Nat), .int .u32 (CrcM.number ((l.drop 4).take 4) : Nat), .int .i64 (CrcM.number ((l.drop 8).take 2) : Nat), .int .i64 (l[10].toNat : Int), .int .i64 (l[11].toNat : Int), .slice A 32 c']).heap[w.heap.size]? = some (.cells #[.int .u32 (CrcM.number (l.take 4) : Nat), .int .u32 (CrcM.number ((l.drop 4).take 4) : Nat), .int .i64 (CrcM.number ((l.drop 8).take 2) : Nat), .int .i64 (l[10].toNat : Int), .int .i64 (l[11].toNat : Int), .slice A 32 c'] 28 (0, 0)) := setRow_heap _ _ _ _ _ _ X2.out
      refine bodyPost_ret (results_cell_tmp_row rfl _ _ (w.heap.size) _ _ (0, 0) _ rfl hrow Try.underlying28 rfl (by kernel_rfl)) rfl ?_
      rw [HE.out, HMM.out]
      refine ⟨_, rfl, Lib.hid ?_, Lib.hid (below_setRow2 B2.out (Nat.le_refl _) _)⟩
      rw [HM.out]
      refine ⟨A, c', by simp only [LMan.cells, HD12.out], ?_⟩
      show RowP _ _ A (l.drop 12).length (bv (l.drop 12))
      rw [HD12.out]
      exact (R2.out.keep (by simp) fun b hb _ => setRow_other _ _ _ _ (by omega)).imp fun b _ hb => Nat.le_of_lt hb
set_option maxRecDepth 100000 in
set_option maxHeartbeats 400000 in
theorem rread_len (A : Option Addr) (n c : Nat) (l : List UInt8) (w : World) (hl : l.length = n) (hn : n ≠ 44) :
    Calls Try.prog 41 #[.slice A n c] w fun e w' => ∃ cs, e = .returned (.tuple #[.agg cs, .int .i64 (readE l)]) ∧ Hid (IsMan w' (fun b => w.heap.size ≤ b) cs (readM l)) ∧ Hid (Below w.heap.size w w') := by
  have hE : readE l = 3 := by unfold readE; rw [if_neg (fun h => hn (hl.symm.trans h.1))]
  have hM : readM l = LMan.zero := by unfold readM; rw [if_neg (fun h => hn (hl.symm.trans h.1))]
  have q : ((n : Int) != 44) = true := by simp; omega
  rw [hE, hM]
  clear hE hM
  have HN := Lib.hid hn
  clear hn hl
  have X0 := Lib.hid (heap_alloc_new w (.cells #[.int .u32 0, .int .u32 0, .int .i64 0, .int .i64 0, .int .i64 0, .slice none 0 0] 28))
  have B0 : Hid (Below w.heap.size w (w.alloc (.cells #[.int .u32 0, .int .u32 0, .int .i64 0, .int .i64 0, .int .i64 0, .slice none 0 0] 28))) := Lib.hid ((Below.refl _ _).alloc (Nat.le_refl _) _)
  go_enter Try.func41, Try.ntmps41
  go_upto_region 2 with fail
  generalize w.alloc (.cells #[.int .u32 0, .int .u32 0, .int .i64 0, .int .i64 0, .int .i64 0, .slice none 0 0] 28) = w0 at *
  go_wp2_with ((with_reducible show wpList _ _ _ _ _ _); refine wpList_store_row rfl _ (.tmp 2) (.tmp 8) rfl (w.heap.size) #[.int .u32 0, .int .u32 0, .int .i64 0, .int .i64 0, .int .i64 0, .slice none 0 0] rfl rfl _ _ X0.out (by kernel_rfl) (by rfl) (by simp [Value.oneCell']) ?_)
  have hrow : (w0.setRow w.heap.size #[.int .u32 0, .int .u32 0, .int .i64 0, .int .i64 0, .int .i64 0, .slice none 0 0]).heap[w.heap.size]? = some (.cells #[.int .u32 0, .int .u32 0, .int .i64 0, .int .i64 0, .int .i64 0, .slice none 0 0] 28 (0, 0)) := setRow_heap _ _ _ _ _ _ X0.out
  refine bodyPost_ret (results_cell_tmp_row rfl _ _ (w.heap.size) _ _ (0, 0) _ rfl hrow Try.underlying28 rfl (by kernel_rfl)) rfl ?_
  exact ⟨_, rfl, Lib.hid ⟨none, 0, rfl, .nil _ _ _⟩, Lib.hid (below_setRow2 B0.out (Nat.le_refl _) _)⟩
theorem rread_any (A : Option Addr) (n c : Nat) (l : List UInt8) (w : World) (hl : Row w w.heap.size A n (bv l)) (hc : n ≤ c) (hc2 : c ≤ 9223372036854775807) :
    Calls Try.prog 41 #[.slice A n c] w fun e w' => ∃ cs, e = .returned (.tuple #[.agg cs, .int .i64 (readE l)]) ∧ Hid (IsMan w' (fun b => w.heap.size ≤ b) cs (readM l)) ∧ Hid (Below w.heap.size w w') := by
  by_cases hn : n = 44
  · subst hn
    obtain ⟨b, o, rfl, _⟩ := hl.2 (by omega)
    exact rread_44 c b o l w hl hc hc2
  · exact rread_len A n c l w hl.blen hn
end Go.Proofs.Ytdipccjgpkedhaa
