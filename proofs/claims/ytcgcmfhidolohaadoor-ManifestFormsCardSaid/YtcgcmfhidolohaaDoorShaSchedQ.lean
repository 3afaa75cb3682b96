/- digest.schedule: by contract. -/
import Derived.Deep.MidRow
import Derived.Deep.WholeRow
import Derived.Laws.Tables
import Derived.Laws.NewBlocks
import Derived.StillTailTactics
import Derived.RegionTactic
import Derived.Test.YtcgcmfhidolohaaDoorShaRoundQ
namespace Go.Proofs.YtcgcmfhidolohaaDoor.Sh
open Go.RowKit
/-- an element of an array by its index -/
theorem run_index_row {P : Program} {t e : TypeId} {n : Nat} {i : TypeInfo} (ht : P.underlying t = some (.array n e)) (hi : P.info? e = some i) (hs : i.size = 1) (hag : ∀ w : World, (isAgg e).run P w = .ok false w) (cs : Array Value) (k : Nat) (v : Value) (h : k < n) (hv : cs[k]? = some v) : ∀ w : World,
    (Instr.index t (.agg cs) (.int .i64 (k : Int))).run P w = .ok v w := by
  intro w
  have hp : (part e cs k).run P w = .ok v w := by
    simp [part, hag, sizeOf, typeInfo, hi, hs, hv]
  simp [Instr.index, asIntOf, run_underlying ht, sizeOf, typeInfo, hi, hs, h]
  exact hp
/-- block g holds 64 words, of which those below n are f's -/
def WAt (W : World) (g n : Nat) (f : Nat → Nat) : Prop :=
  ∃ cs : Array Value, W.heap[g]? = some (.cells cs 61 (0, 0)) ∧ cs.size = 64 ∧ ∀ i, i < n → cs[i]? = some (.int .u32 (f i : Int))
section
variable {W W' : World} {g n : Nat} {f f' : Nat → Nat}
theorem WAt.at_ (h : WAt W g n f) {i : Nat} (hi : i < n) : W.cell? ⟨g, i, none⟩ = some (.int .u32 (f i : Int)) := by
  obtain ⟨cs, hg, _, hc⟩ := h
  rw [cell_of_row W g i cs _ (0, 0) hg]
  exact hc i hi
theorem WAt.some_ (h : WAt W g n f) {i : Nat} (hi : i < 64) : ∃ v, W.cell? ⟨g, i, none⟩ = some v := by
  obtain ⟨cs, hg, hs, hc⟩ := h
  rw [cell_of_row W g i cs _ (0, 0) hg]
  exact ⟨cs[i], by rw [Array.getElem?_eq_getElem]⟩
theorem WAt.frozen (h : WAt W g n f) (i : Nat) : W.frozen? ⟨g, i, none⟩ = false := by
  obtain ⟨cs, hg, _, _⟩ := h
  exact frozen_of_row W g i cs _ hg
theorem WAt.store (h : WAt W g n f) {k n' x : Nat} (hk : k < 64) (hf : ∀ i, i < n' → i = k ∧ f' i = x ∨ i ≠ k ∧ i < n ∧ f' i = f i) : WAt (W.setCell ⟨g, k, none⟩ (.int .u32 (x : Int))) g n' f' := by
  obtain ⟨cs, hg, hs, hc⟩ := h
  refine ⟨cs.setIfInBounds k (.int .u32 (x : Int)), heap_setCell_same W g k cs _ _ hg, by simpa using hs, fun i hi => ?_⟩
  rw [Array.getElem?_setIfInBounds]
  rcases hf i hi with ⟨rfl, e⟩ | ⟨h1, h2, e⟩
  · rw [if_pos rfl, if_pos (by omega), e]
  · rw [if_neg (fun e' => h1 e'.symm), e]; exact hc i h2
theorem WAt.keep (h : WAt W g n f) (hb : W'.heap[g]? = W.heap[g]?) : WAt W' g n f := by
  obtain ⟨cs, hg, r⟩ := h
  exact ⟨cs, hb.trans hg, r⟩
end
/-- word j behind k bytes -/
def accW (bl : List UInt8) (j k : Nat) : Nat := ((bl.drop (4 * j)).take (min 4 (k - 4 * j))).foldl (fun a x => a * 256 + x.toNat) 0
theorem fold4_lt (l : List UInt8) (n : Nat) (h : l.length ≤ n) : l.foldl (fun a x => a * 256 + x.toNat) 0 < 256 ^ n := by
  induction n generalizing l with
  | zero =>
    have : l = [] := List.eq_nil_of_length_eq_zero (by omega)
    subst this; decide
  | succ n ih =>
    rcases l.eq_nil_or_concat with rfl | ⟨m, x, rfl⟩
    · exact Nat.pos_of_ne_zero (by simp)
    · rw [List.concat_eq_append, List.foldl_append]
      have h1 := ih m (by simp at h; omega)
      have h2 := x.toNat_lt
      simp only [List.foldl_cons, List.foldl_nil]
      rw [Nat.pow_succ]
      omega
theorem accW_other (bl : List UInt8) (j k : Nat) (h : j ≠ k / 4) : accW bl j (k + 1) = accW bl j k := by
  unfold accW
  congr 2
  omega
theorem accW_lt (bl : List UInt8) (k : Nat) : accW bl (k / 4) k < 16777216 := by
  unfold accW
  have : min 4 (k - 4 * (k / 4)) ≤ 3 := by omega
  exact Nat.lt_of_lt_of_le (fold4_lt _ 3 (by rw [List.length_take]; omega)) (by decide)
theorem accW_next (bl : List UInt8) (k : Nat) (hk : k < bl.length) : accW bl (k / 4) (k + 1) = accW bl (k / 4) k * 256 + (bl.getD k 0).toNat := by
  unfold accW
  rw [show min 4 (k + 1 - 4 * (k / 4)) = min 4 (k - 4 * (k / 4)) + 1 by omega]
  have hd : (bl.drop (4 * (k / 4))).length > min 4 (k - 4 * (k / 4)) := by rw [List.length_drop]; omega
  rw [List.take_succ_eq_append_getElem hd, List.foldl_append]
  simp only [List.foldl_cons, List.foldl_nil, List.getElem_drop]
  congr 2
  simp only [List.getD, show 4 * (k / 4) + min 4 (k - 4 * (k / 4)) = k by omega, List.getElem?_eq_getElem hk, Option.getD_some]
theorem accW_word (bl : List UInt8) (j : Nat) (hb : bl.length = 64) (hj : j < 16) : accW bl j 64 = Sha.word bl j := by
  unfold accW
  rw [show min 4 (64 - 4 * j) = 4 by omega]
  have hd : ∀ i, i < 4 → (bl.drop (4 * j))[i]? = some (bl.getD (4 * j + i) 0) := by
    intro i hi
    rw [List.getElem?_drop, List.getD, List.getElem?_eq_getElem (by omega)]; rfl
  have e : (bl.drop (4 * j)).take 4 = [bl.getD (4 * j) 0, bl.getD (4 * j + 1) 0, bl.getD (4 * j + 2) 0, bl.getD (4 * j + 3) 0] := by
    apply List.ext_getElem?
    intro i
    rcases (by omega : i = 0 ∨ i = 1 ∨ i = 2 ∨ i = 3 ∨ 4 ≤ i) with rfl | rfl | rfl | rfl | h
    · rw [List.getElem?_take_of_lt (by omega), hd 0 (by omega)]; rfl
    · rw [List.getElem?_take_of_lt (by omega), hd 1 (by omega)]; rfl
    · rw [List.getElem?_take_of_lt (by omega), hd 2 (by omega)]; rfl
    · rw [List.getElem?_take_of_lt (by omega), hd 3 (by omega)]; rfl
    · rw [List.getElem?_take_eq_none (by omega), List.getElem?_eq_none (by simp; omega)]
  rw [e]
  simp [Sha.word, Sha.num4]
/-- word i of those that the schedule tells -/
def schW (bl : List UInt8) (i : Nat) : Nat := (Sha.wordsOf bl).getD i 0
theorem sched_getD (k m : Nat) (l : List Nat) (i : Nat) (h : i < l.length + k) : (Sha.sched (k + m) l).getD i 0 = (Sha.sched k l).getD i 0 := by
  induction m with
  | zero => rfl
  | succ m ih =>
    rw [← ih]
    show (Sha.next (Sha.sched (k + m) l)).getD i 0 = _
    have hl := Sha.sched_length (k + m) l
    unfold Sha.next
    simp only [List.getD]
    rw [List.getElem?_append_left (by omega)]
theorem schW_word (bl : List UInt8) (j : Nat) (hj : j < 16) : schW bl j = Sha.word bl j := by
  unfold schW Sha.wordsOf
  rw [show (48 : Nat) = 0 + 48 from rfl, sched_getD 0 48 _ _ (by rw [Sha.words_length]; omega)]
  show (Sha.words bl).getD j 0 = _
  simp [Sha.words, List.getD, hj]
theorem schW_next (bl : List UInt8) (i : Nat) (h1 : 16 ≤ i) (h2 : i < 64) : schW bl i = Sha.add (Sha.add (Sha.add (Sha.small1 (schW bl (i - 2))) (schW bl (i - 7))) (Sha.small0 (schW bl (i - 15)))) (schW bl (i - 16)) := by
  have key : ∀ j, j < i → schW bl j = (Sha.sched (i - 16) (Sha.words bl)).getD j 0 := by
    intro j hj
    unfold schW Sha.wordsOf
    rw [show 48 = (i - 16) + (64 - i) by omega, sched_getD _ _ _ _ (by rw [Sha.words_length]; omega)]
  have hl := Sha.sched_length (i - 16) (Sha.words bl)
  rw [Sha.words_length] at hl
  rw [key (i - 2) (by omega), key (i - 7) (by omega), key (i - 15) (by omega), key (i - 16) (by omega)]
  unfold schW Sha.wordsOf
  rw [show 48 = (i - 16 + 1) + (63 - i) by omega, sched_getD _ _ _ _ (by rw [Sha.words_length]; omega)]
  show (Sha.next _).getD i 0 = _
  unfold Sha.next
  simp only [List.getD]
  rw [List.getElem?_append_right (by omega), hl, show 16 + (i - 16) = i by omega, Nat.sub_self]
  rfl
theorem schW_lt (bl : List UInt8) (i : Nat) : schW bl i < 4294967296 := Sha.getD_lt (Sha.wordsOf_lt bl) i
theorem Tryd.info22 : (Tryd.prog.info? 22).map (fun i => (i.zero, i.size, i.bytes)) = some (some (.int .u32 0), 1, 4) := by kernel_rfl
def blkZ : Array Value := (List.replicate 64 (Value.int .u32 0)).toArray
theorem blkZ_zero (w : World) : (zeroValue 61).run Tryd.prog w = .ok (.agg blkZ) w := by kernel_rfl
theorem isAgg_u8 (w : World) : (isAgg 5).run Tryd.prog w = .ok false w := by kernel_rfl
theorem isAgg_u32 (w : World) : (isAgg 22).run Tryd.prog w = .ok false w := by kernel_rfl
theorem alloc3 (w : World) (a b c : Obj) : (((w.alloc a).alloc b).alloc c).heap[w.heap.size]? = some a ∧ (((w.alloc a).alloc b).alloc c).heap[w.heap.size + 1]? = some b ∧ (((w.alloc a).alloc b).alloc c).heap[w.heap.size + 2]? = some c := by
  refine ⟨?_, ?_, ?_⟩
  · rw [heap_alloc_old _ c (by simp; omega)]; exact heap_alloc2_old w a b
  · rw [heap_alloc_old _ c (by simp)]; exact heap_alloc2_new w a b
  · have := heap_alloc_new ((w.alloc a).alloc b) c; simpa using this
def SchedA (bl : List UInt8) (Z : Array Value) (w : World) (n : Nat) (f : Nat → Nat) (wr : World) : Prop :=
  WAt wr (w.heap.size + 1 + 1) n f ∧ wr.heap[w.heap.size + 1]? = some (.cells Z 61 (0, 0)) ∧ Below w.heap.size w wr
theorem SchedA.store {bl : List UInt8} {Z : Array Value} {w wr : World} {n n' k x : Nat} {f f' : Nat → Nat} (h : SchedA bl Z w n f wr) (hk : k < 64) (hf : ∀ i, i < n' → i = k ∧ f' i = x ∨ i ≠ k ∧ i < n ∧ f' i = f i) :
    SchedA bl Z w n' f' (wr.setCell ⟨w.heap.size + 1 + 1, k, none⟩ (.int .u32 (x : Int))) :=
  ⟨h.1.store hk hf, (heap_setCell_other _ _ _ _ (by show _ ≠ w.heap.size + 1 + 1; omega)).trans h.2.1, h.2.2.setCell (by show w.heap.size ≤ w.heap.size + 1 + 1; omega) _⟩
theorem blkZ_at {Z : Array Value} (hZ : blkZ = Z) (i : Nat) (h : i < 64) : Z[i]? = some (.int .u32 0) := by
  subst hZ
  unfold blkZ
  rw [List.getElem?_toArray, List.getElem?_replicate, if_pos h]
theorem blkZ_size {Z : Array Value} (hZ : blkZ = Z) : Z.size = 64 := by
  subst hZ
  unfold blkZ
  rw [List.size_toArray, List.length_replicate]
theorem acc_or (a : Nat) (x : UInt8) (h : a < 16777216) : bits .or .u32 ((a : Int) * 256) (x.toNat : Int) = ((a * 256 + x.toNat : Nat) : Int) := by
  have hx := x.toNat_lt
  rw [show (a : Int) * 256 = ((a * 256 : Nat) : Int) by omega, u32_or_nat _ _ (by omega) (by omega), nat_join 8 _ _ (by omega) (by omega)]
theorem same_of {P : Program} {f : FuncId} {args : Array Value} {w : World} {v : Value} (h : Calls P f args w fun e w' => e = .returned v ∧ w = w') : Calls P f args w fun e w' => e = .returned v ∧ w' = w :=
  h.mono fun _ _ ⟨he, hw⟩ => ⟨he, hw.symm⟩
theorem small0_bits (x : Nat) (h : x < 4294967296) : bits .xor .u32 (bits .xor .u32 (Sha.rotr x 7 : Nat) (Sha.rotr x 18 : Nat)) ((x : Int) / 8) = ((Sha.small0 x : Nat) : Int) := by
  rw [show (x : Int) / 8 = ((x / 8 : Nat) : Int) by omega, u32_xor_nat _ _ (Sha.rotr_lt _ _ h) (Sha.rotr_lt _ _ h), u32_xor_nat _ _ (Sha.xor_lt _ _ (Sha.rotr_lt _ _ h) (Sha.rotr_lt _ _ h)) (by omega)]; rfl
theorem small1_bits (x : Nat) (h : x < 4294967296) : bits .xor .u32 (bits .xor .u32 (Sha.rotr x 17 : Nat) (Sha.rotr x 19 : Nat)) ((x : Int) / 1024) = ((Sha.small1 x : Nat) : Int) := by
  rw [show (x : Int) / 1024 = ((x / 1024 : Nat) : Int) by omega, u32_xor_nat _ _ (Sha.rotr_lt _ _ h) (Sha.rotr_lt _ _ h), u32_xor_nat _ _ (Sha.xor_lt _ _ (Sha.rotr_lt _ _ h) (Sha.rotr_lt _ _ h)) (by omega)]; rfl
theorem all_one {cs : Array Value} {n : Nat} {f : Nat → Nat} (hs : cs.size = n) (h : ∀ i, i < n → cs[i]? = some (.int .u32 (f i : Int))) : cs.all (·.oneCell') = true := by
  rw [Array.all_eq_true]
  intro i hi
  have := h i (by omega)
  rw [Array.getElem?_eq_getElem hi] at this
  injection this with this
  rw [this]; rfl
theorem below_setRow {B g : Nat} {w w' : World} (h : Below B w w') (hg : B ≤ g) (cs : Array Value) : Below B w (w'.setRow g cs) :=
  ⟨h.os, h.tape, h.output, by simpa using h.size, fun k hk => (setRow_other w' g k cs (by omega)).trans (h.block k hk)⟩
theorem sum4 (p q r s : Nat) : ((p : Int) + (q : Int) + (r : Int) + (s : Int)) % 4294967296 = ((Sha.add (Sha.add (Sha.add p q) r) s : Nat) : Int) := by
  unfold Sha.add; omega
def SchedOk (bl : List UInt8) (w : World) (e : Ending) (w' : World) : Prop :=
  ∃ cs : Array Value, e = .returned (.agg cs) ∧ cs.size = 64 ∧ Hid (∀ i, i < 64 → cs[i]? = some (.int .u32 (schW bl i : Int))) ∧ Hid (Below w.heap.size w w')
set_option maxRecDepth 100000 in
set_option maxHeartbeats 1600000 in
theorem sched_any (bl : List UInt8) (C : Array Value) (hb : bl.length = 64) (hC : ∀ i, i < 64 → C[i]? = some (.int .u8 ((bl.getD i 0).toNat : Int))) (hs : C.size = 64) (w : World) :
    Calls Tryd.prog 48 #[.agg C] w (SchedOk bl w) := by
  obtain ⟨Z, hZ⟩ : ∃ Z, blkZ = Z := ⟨_, rfl⟩
  have hz : ∀ w' : World, (zeroValue 61).run Tryd.prog w' = .ok (.agg Z) w' := fun w' => by rw [← hZ]; exact blkZ_zero w'
  have HZ := Lib.hid hZ
  have HB := Lib.hid hb
  have HC := Lib.hid hC
  have HS := Lib.hid hs
  clear hZ hb hC hs
  obtain ⟨i0, hi, hz0, hz1, hz2⟩ := info_parts Tryd.info5
  go_enter Tryd.func48, Tryd.ntmps48
  obtain ⟨x0, x1, x2⟩ := alloc3 w (.cells C 64) (.cells Z 61) (.cells Z 61)
  have X0 := Lib.hid x0
  have X1 := Lib.hid x1
  have X2 := Lib.hid x2
  clear x0 x1 x2
  go_wp2_with (refine wpList_load_row rfl _ (.tmp 1) rfl _ rfl _ _ _ _ X0.out Tryd.underlying64 rfl (by rw [HS.out]; kernel_rfl) ?_)
  have hA0 : Hid (SchedA bl Z w 16 (fun j => accW bl j 0) (((w.alloc (.cells C 64)).alloc (.cells Z 61)).alloc (.cells Z 61))) := by
    refine ⟨⟨Z, X2.out, blkZ_size HZ.out, fun i hi => ?_⟩, X1.out, ((((Below.refl _ _).alloc (Nat.le_refl _) _).alloc (by simp) _).alloc (by simp; omega) _)⟩
    rw [blkZ_at HZ.out i (by omega)]
    simp [accW]
  clear X0 X1 X2
  go_loopw [10] (fun i wr => ∃ k : Nat, k ≤ 64 ∧ i = .int .i64 k ∧ Hid (SchedA bl Z w 16 (fun j => accW bl j k) wr)) (fun i _ => 64 - (intOf i).toNat)
  case atStart => exact ⟨0, by omega, rfl, hA0⟩
  case round =>
    obtain ⟨k, hk, rfl, hd⟩ := hrel
    by_cases hlt : k < 64
    · have hix := run_index_row (P := Tryd.prog) Tryd.underlying64 hi hz1 isAgg_u8 C k _ hlt (HC.out k hlt)
      obtain ⟨j, hj⟩ : ∃ j, k / 4 = j := ⟨_, rfl⟩
      have hj16 : j < 16 := by omega
      have HK : Hid ((k : Int) / 4 = (j : Int)) := by show (k : Int) / 4 = (j : Int); omega
      have hacc := accW_lt bl k
      have hnext := accW_next bl k (by rw [HB.out]; exact hlt)
      have hoth : ∀ i, i ≠ j → accW bl i (k + 1) = accW bl i k := fun i hi => accW_other bl i k (by rw [hj]; exact hi)
      rw [hj] at hacc hnext
      obtain ⟨x, hx⟩ : ∃ x, bl.getD k 0 = x := ⟨_, rfl⟩
      rw [hx] at hix hnext
      obtain ⟨a, ha⟩ : ∃ a, accW bl j k = a := ⟨_, rfl⟩
      rw [ha] at hacc hnext
      have hcell : wr.cell? ⟨w.heap.size + 1 + 1, j, none⟩ = some (.int .u32 (a : Int)) := by
        have := hd.out.1.at_ hj16
        rw [ha] at this; exact this
      have hfr := hd.out.1.frozen j
      have HO := Lib.hid (acc_or a x hacc)
      have hD : Hid (SchedA bl Z w 16 (fun j => accW bl j (k + 1)) (wr.setCell ⟨w.heap.size + 1 + 1, j, none⟩ (.int .u32 ((a * 256 + x.toNat : Nat) : Int)))) := by
        refine hd.out.store (by omega) fun i hi => ?_
        by_cases e : i = j
        · subst e; exact .inl ⟨rfl, hnext⟩
        · exact .inr ⟨e, hi, hoth i e⟩
      have hxb : (x.toNat : Int) ≤ 255 := by have := x.toNat_lt; omega
      clear hd hj hnext hoth hx ha
      go_wp2_with (rw [HK.out])
      go_roundw
      case rel => exact ⟨k + 1, by omega, by go_num, by rw [HO.out]; exact hD⟩
      case measure => simp [intOf]; omega
    · obtain rfl : 64 = k := by omega
      go_wp2_with fail
      have hB0 : Hid (SchedA bl Z w 16 (schW bl) wr) := by
        obtain ⟨⟨cs, h1, h2, h3⟩, h4⟩ := hd.out
        refine ⟨⟨cs, h1, h2, fun i hi => ?_⟩, h4⟩
        rw [h3 i hi, schW_word bl i hi, ← accW_word bl i HB.out hi]
      clear hd hA0
      obtain ⟨wo, rfl⟩ : ∃ wo : World, wo = wr := ⟨_, rfl⟩
      go_loopw [6] (fun i wr => ∃ m : Nat, 16 ≤ m ∧ m ≤ 64 ∧ i = .int .i64 m ∧ Hid (SchedA bl Z w m (schW bl) wr)) (fun i _ => 64 - (intOf i).toNat)
      case atStart => exact ⟨16, by omega, by omega, rfl, hB0⟩
      case round =>
        obtain ⟨m, hm16, hm, rfl, hd⟩ := hrel
        by_cases hlt : m < 64
        · obtain ⟨a, ha⟩ : ∃ a, m - 15 = a := ⟨_, rfl⟩
          obtain ⟨b, hb⟩ : ∃ b, m - 2 = b := ⟨_, rfl⟩
          obtain ⟨c, hc⟩ : ∃ c, m - 7 = c := ⟨_, rfl⟩
          obtain ⟨d, hdd⟩ : ∃ d, m - 16 = d := ⟨_, rfl⟩
          have hnx := schW_next bl m hm16 hlt
          rw [ha, hb, hc, hdd] at hnx
          have XA := Lib.hid (schW_lt bl a)
          have XB := Lib.hid (schW_lt bl b)
          obtain ⟨xa, ea⟩ : ∃ x, schW bl a = x := ⟨_, rfl⟩
          obtain ⟨xb, eb⟩ : ∃ x, schW bl b = x := ⟨_, rfl⟩
          obtain ⟨xc, ec⟩ : ∃ x, schW bl c = x := ⟨_, rfl⟩
          obtain ⟨xd, ed⟩ : ∃ x, schW bl d = x := ⟨_, rfl⟩
          rw [ea, eb, ec, ed] at hnx
          rw [ea] at XA
          rw [eb] at XB
          have HNX := Lib.hid hnx
          have EA := Lib.hid ea
          have EB := Lib.hid eb
          have EC := Lib.hid ec
          have ED := Lib.hid ed
          have WA := Lib.hid (show IntKind.i64.wrap ((m : Int) - 15) = (a : Int) by rw [IntWalk.i64_in _ (by omega)]; omega)
          have WB := Lib.hid (show IntKind.i64.wrap ((m : Int) - 2) = (b : Int) by rw [IntWalk.i64_in _ (by omega)]; omega)
          have WC := Lib.hid (show IntKind.i64.wrap ((m : Int) - 7) = (c : Int) by rw [IntWalk.i64_in _ (by omega)]; omega)
          have WD := Lib.hid (show IntKind.i64.wrap ((m : Int) - 16) = (d : Int) by rw [IntWalk.i64_in _ (by omega)]; omega)
          have a64 : (a : Int) < 64 := by omega
          have b64 : (b : Int) < 64 := by omega
          have c64 : (c : Int) < 64 := by omega
          have d64 : (d : Int) < 64 := by omega
          have m64 : (m : Int) < 64 := by omega
          have am : a < m := by omega
          have bm : b < m := by omega
          have cm : c < m := by omega
          have dm : d < m := by omega
          have ca : wr.cell? ⟨w.heap.size + 1 + 1, a, none⟩ = some (.int .u32 (xa : Int)) := by rw [hd.out.1.at_ am, EA.out]
          clear ha hb hc hdd ea eb ec ed hnx hB0
          have wa := WA.out
          go_wp2_with fail
          go_quiet ((first | (go_at_call 50; with_reducible exact Calls.quiet_of_same (same_of (right_7 _ _ XA))) | (go_at_call 50; with_reducible exact Calls.quiet_of_same (same_of (right_18 _ _ XA)))))
          rw [small0_bits _ XA.out]
          have hd1 : Hid (SchedA bl Z w m (schW bl) (wr.drewN nq)) := ⟨hd.out.1.keep rfl, hd.out.2.1, below_drewN hd.out.2.2 _⟩
          clear wa ca hd
          generalize wr.drewN nq = w1 at *
          have cb : w1.cell? ⟨w.heap.size + 1 + 1, b, none⟩ = some (.int .u32 (xb : Int)) := by rw [hd1.out.1.at_ bm, EB.out]
          have wb := WB.out
          go_wp2_with fail
          go_quiet ((first | (go_at_call 50; with_reducible exact Calls.quiet_of_same (same_of (right_17 _ _ XB))) | (go_at_call 50; with_reducible exact Calls.quiet_of_same (same_of (right_19 _ _ XB)))))
          rw [small1_bits _ XB.out]
          have hd2 : Hid (SchedA bl Z w m (schW bl) (w1.drewN nq)) := ⟨hd1.out.1.keep rfl, hd1.out.2.1, below_drewN hd1.out.2.2 _⟩
          clear wb cb hd1
          generalize w1.drewN nq = w2 at *
          have cc : w2.cell? ⟨w.heap.size + 1 + 1, c, none⟩ = some (.int .u32 (xc : Int)) := by rw [hd2.out.1.at_ cm, EC.out]
          have cd : w2.cell? ⟨w.heap.size + 1 + 1, d, none⟩ = some (.int .u32 (xd : Int)) := by rw [hd2.out.1.at_ dm, ED.out]
          obtain ⟨vm, cv⟩ := hd2.out.1.some_ (i := m) hlt
          have hfr := hd2.out.1.frozen m
          have wc := WC.out
          have wd := WD.out
          generalize Sha.small0 xa = sa at *
          generalize Sha.small1 xb = sb at *
          go_wp2_with fail
          have hD : Hid (SchedA bl Z w (m + 1) (schW bl) ((w2.setCell ⟨w.heap.size + 1 + 1, m, none⟩ (.int .u32 (((sb : Int) + (xc : Int) + (sa : Int) + (xd : Int)) % 4294967296))).drew)) := by
            rw [sum4]
            have := hd2.out.store (n' := m + 1) (f' := schW bl) (x := Sha.add (Sha.add (Sha.add sb xc) sa) xd) hlt fun i hi => by
              by_cases e : i = m
              · subst e; exact .inl ⟨rfl, HNX.out⟩
              · exact .inr ⟨e, by omega, rfl⟩
            exact ⟨this.1.keep rfl, this.2.1, this.2.2.drew⟩
          clear hd2
          go_region
          all_goals
            go_wp2_with fail
            go_roundw
            case rel => exact ⟨m + 1, by omega, by omega, by go_num, hD⟩
            case measure => simp [intOf]; omega
        · obtain rfl : 64 = m := by omega
          clear hB0
          have hres := hd.out.2.1
          obtain ⟨cs, hg, hcs, hcell⟩ := hd.out.1
          have HG := Lib.hid hg
          have HR := Lib.hid hres
          have HCS := Lib.hid hcs
          have HCC := Lib.hid hcell
          clear hg hres hcs hcell
          go_wp2_with (first
            | (refine wpList_load_row rfl _ (.tmp 3) rfl _ rfl _ _ _ _ HG.out Tryd.underlying61 rfl (by rw [HCS.out]; kernel_rfl) ?_)
            | (refine wpList_store_row rfl _ (.tmp 2) (.tmp 79) rfl (w.heap.size + 1) cs rfl rfl _ _ HR.out (by rw [HCS.out]; kernel_rfl) (by rw [HCS.out, blkZ_size HZ.out]) (all_one HCS.out HCC.out) ?_))
          refine bodyPost_ret (results_cell_row rfl _ _ (w.heap.size + 1) _ cs (0, 0) _ rfl (setRow_heap _ _ _ _ _ _ HR.out) Tryd.underlying61 rfl (by rw [HCS.out]; kernel_rfl)) rfl ?_
          exact ⟨cs, rfl, HCS.out, HCC, below_setRow hd.out.2.2 (by omega) _⟩
end Go.Proofs.YtcgcmfhidolohaaDoor.Sh
