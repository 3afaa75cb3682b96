/- Contracts of the functions that the law calls, part 4. -/
import Derived.Laws.ResultCell
import Derived.Laws.Rows
import Derived.Deep.DeepCutAuto
import Derived.Deep.RegionHeld3
import Derived.Deep.QuietTactic
import Derived.BigQuiet
import Derived.Test.YtlpmammagebkfaaDoorRows
import Derived.WalkSpells
import Derived.WalkLawsBesides
import Derived.Test.YtlpmammagebkfaaDoorZ3
namespace Go.Proofs.YtlpmammagebkfaaDoor.Pc
open Go.RowKit
open VecM RdM Vc Sp
theorem Pc2.below {W W' : World} {base : Nat} {v : Value} {r : BRow} (h : Pc2 W base v r) (hb : Below W.heap.size W W') : Pc2 W' base v r := by
  obtain ⟨g, a, b, c⟩ := h
  exact ⟨g, a, b, own_below c hb⟩
theorem PW.mono {ls : List (List UInt8)} {base base' : Nat} {v : Value} {w : World} (h : PW ls base v w) (hb : base' ≤ base) : PW ls base' v w := by
  obtain ⟨es, h1, h2, h3⟩ := h
  refine ⟨es, h1, own_base h2 hb, fun r hr => ?_⟩
  obtain ⟨g, a, b, c⟩ := h3 r hr
  exact ⟨g, a, b, own_base c hb⟩
theorem PW.app {ls : List (List UInt8)} {base g0 n0 c0 k : Nat} {v v' : Value} {l : List UInt8} {wr W2 w5 : World} {es : List BRow} (hk : ls.length = k) (h1 : es.map (·.l) = ls) (h2 : wr.ownsRow base 25 1 v k (es.map BRow.val)) (h3 : ∀ r ∈ es, Pc2 wr base v r)
    (hb : Below wr.heap.size wr W2) (ho : W2.ownsRow wr.heap.size 5 1 (.slice (some ⟨g0, 0, none⟩) n0 c0) n0 (bv l)) (hbase : base ≤ wr.heap.size)
    (hown : w5.ownsRow base 25 1 v' (k + 1) (es.map BRow.val ++ [.slice (some ⟨g0, 0, none⟩) n0 c0])) (hg : W2.grownBy w5 v.ownBlock) (hv : v'.ownBlock = v.ownBlock ∨ v'.ownBlock = some W2.heap.size) : PW (ls ++ [l]) base v' w5 := by
  subst hk
  exact PW.next h1 (own_below h2 hb) (fun r hr => (h3 r hr).below hb) (fun e => by have a := (h2.lt g0 e).2; have b := (ho.lt g0 rfl).1; omega) (own_base ho hbase) hown hg hv
/-- the pieces, and behind them those of parity -/
def allP (s K Z : Nat) (ls : List (List UInt8)) (j : Nat) : List (List UInt8) := ls ++ (List.range j).map fun i => sumR (parJ s K i) Z ls K
theorem allP_next (s K Z : Nat) (ls : List (List UInt8)) (j : Nat) : allP s K Z ls (j + 1) = allP s K Z ls j ++ [sumR (parJ s K j) Z ls K] := by
  unfold allP
  rw [List.range_succ, List.map_append, List.append_assoc]; rfl
theorem allP_length (s K Z : Nat) (ls : List (List UInt8)) (j : Nat) : (allP s K Z ls j).length = ls.length + j := by simp [allP]
def PcsOk (ls : List (List UInt8)) (w : World) (e : Ending) (w' : World) : Prop := ∃ v, e = .returned v ∧ Hid (PW ls w.heap.size v w') ∧ Hid (Below w.heap.size w w')
theorem mkRows (m : Nat) (hm : m ≤ 1000000) : ∃ C : Array Value, C.size = m ∧ ∀ w : World, (Instr.makeSlice 31 (.int .i64 0) (.int .i64 (m : Int))).run Tryd.prog w = .ok (.slice (some ⟨w.heap.size, 0, none⟩) 0 m) (w.alloc (.cells C 25)) := by
  obtain ⟨i0, hi, hz0, hz1, hz2⟩ := info_parts Tryd.info25
  refine ⟨madeCells (Value.slice none 0 0).cells m, ?_, fun w => ?_⟩
  · show (madeCells #[Value.slice none 0 0] m).size = m
    have := congrArg List.length (toList_madeCells_one (Value.slice none 0 0) m)
    simpa using this
  · have h := run_make (P := Tryd.prog) w 31 25 i0 (.slice none 0 0) Tryd.underlying31 hi hz0 .i64 .i64 0 (m : Int) (by omega) (by omega) (by rw [hz2]; omega) (by omega)
    rw [hz1, Nat.mul_one] at h
    simpa using h
/-- the blocks of the rows of parity stay, apart from v -/
def Stay (gA : Nat) (wR : World) (v : Value) (wr : World) : Prop := wR.heap.size ≤ wr.heap.size ∧ ∀ b, gA ≤ b → b < wR.heap.size → wr.heap[b]? = wR.heap[b]? ∧ v.ownBlock ≠ some b
theorem Stay.step {gA : Nat} {wR wr W2 w5 : World} {v v' : Value} (h : Stay gA wR v wr) (hb : Below wr.heap.size wr W2) (hg : W2.grownBy w5 v.ownBlock) (hv : v'.ownBlock = v.ownBlock ∨ v'.ownBlock = some W2.heap.size) : Stay gA wR v' w5 := by
  have h1 := h.1
  have h2 := hb.size
  refine ⟨by have := hg.size; omega, fun b hb1 hb2 => ?_⟩
  obtain ⟨e1, e2⟩ := h.2 b hb1 hb2
  refine ⟨?_, fun e => ?_⟩
  · rw [hg.block b (by omega) (fun e => e2 e.symm), hb.block b (by omega)]; exact e1
  · rcases hv with q | q
    · exact e2 (q.symm.trans e)
    · rw [q] at e; injection e with e; omega
set_option maxRecDepth 100000 in
set_option maxHeartbeats 3200000 in
theorem pieces_yes (s K P Z c B : Nat) (A : Option Addr) (es : List BRow) (w : World) (hs : s < 4294967296) (hK : 1 ≤ K ∧ K ≤ 64) (hP : P ≤ 16) (hZ : 1 ≤ Z ∧ Z ≤ 16) (hl : Rows2 w B A K es) (hes : ∀ r ∈ es, r.n = Z) (hB : B ≤ w.heap.size) :
    Calls Tryd.prog 32 #[parV s K P Z, .slice A K c] w (PcsOk (allP s K Z (es.map (·.l)) P) w) := by
  obtain ⟨i0, hi, hz0, hz1, hz2⟩ := info_parts Tryd.info25
  have HX0 := Lib.hid (heap_alloc_new w (.cells #[.int .u32 (s : Int), .int .i64 (K : Int), .int .i64 (P : Int), .int .i64 (Z : Int)] 24))
  have HB0 : Hid (Below w.heap.size w (w.alloc (.cells #[.int .u32 (s : Int), .int .i64 (K : Int), .int .i64 (P : Int), .int .i64 (Z : Int)] 24))) := (Below.refl _ _).alloc (Nat.le_refl _) _
  have hz : (w.alloc (.cells #[.int .u32 (s : Int), .int .i64 (K : Int), .int .i64 (P : Int), .int .i64 (Z : Int)] 24)).heap.size = w.heap.size + 1 := by simp
  generalize hw0 : (w.alloc (.cells #[.int .u32 (s : Int), .int .i64 (K : Int), .int .i64 (P : Int), .int .i64 (Z : Int)] 24)) = w0 at *
  have HW0 := Lib.hid hw0
  have HZ0 := Lib.hid hz
  have hM := fun W => may_any s (K : Int) (P : Int) (Z : Int) W
  have hmay : mayB (K : Int) (P : Int) (Z : Int) = true := (mayB_iff _ _ _).2 (by omega)
  rw [hmay] at hM
  have hkeep := Lib.hid (spar_keep HX0.out)
  have HL := Lib.hid (fun W (hW : Below w0.heap.size w0 W) => (hl.below (HB0.out.mono hB)).below (hW.mono (by omega)))
  have hF := fun W (hW : Below w0.heap.size w0 W) => fit_any s K P Z K c B A es W (HL.out W hW) (by have := hW.size; omega) (by omega) (fun r hr => by rw [hes r hr]; omega)
  rw [fitB_yes.2 ⟨rfl, hes⟩] at hF
  obtain ⟨n, hn⟩ : ∃ n, K + P = n := ⟨_, rfl⟩
  have hPi := fun W => pieces_any s (K : Int) (P : Int) (Z : Int) W (by omega) (by omega)
  rw [hmay, if_pos rfl, show (K : Int) + (P : Int) = (n : Int) by omega] at hPi
  have hR := fun W => rows_any s K P Z W hs hK hP hZ
  unfold parV at hM hF hPi hR ⊢
  have HM := Lib.hid hM
  have HF := Lib.hid hF
  have HPI := Lib.hid hPi
  have HR := Lib.hid hR
  have HES := Lib.hid hes
  have HBB : Hid (B ≤ w0.heap.size) := Lib.hid (by omega)
  have HKB := Lib.hid hK
  have HPB := Lib.hid hP
  have HZB := Lib.hid hZ
  have HNN := Lib.hid hn
  obtain ⟨C, hC, hmk⟩ := mkRows n (by omega)
  have HC := Lib.hid hC
  have hk64 : (K : Int) ≤ 64 := by omega
  have hp16 : (P : Int) ≤ 16 := by omega
  have HLEN : Hid (es.length = K) := Lib.hid (by have := hl.1.1; simpa using this)
  clear hM hF hPi hR hs hK hP hZ hes hB hl hn hC hmay hz hw0
  go_enter Tryd.func32, Tryd.ntmps32
  go_upto_region 1 with fail
  rw [HW0.out]
  obtain ⟨_, c0, c1, c2, c3⟩ := hkeep.out w0 (Below.refl _ _)
  go_wp2_with fail
  refine (HM.out _).mono ?_
  rintro e w1 ⟨rfl, hb1⟩
  clear c0 c1 c2 c3
  obtain ⟨_, c0, c1, c2, c3⟩ := hkeep.out w1 hb1.out
  go_wp2_with fail
  refine (HF.out _ hb1.out).mono ?_
  rintro e w2 ⟨rfl, hb2⟩
  have HB2 := Lib.hid (hb1.out.trans (hb2.out.mono hb1.out.size))
  clear c0 c1 c2 c3 hb1 hb2 HF HM
  obtain ⟨_, c0, c1, c2, c3⟩ := hkeep.out w2 HB2.out
  go_wp2_with fail
  refine (HPI.out _).mono ?_
  rintro e w3 ⟨rfl, hb3⟩
  have HB3 := Lib.hid (HB2.out.trans (hb3.out.mono HB2.out.size))
  clear c0 c1 c2 c3 hb3 HB2 HPI
  go_wp2_with fail
  clear hmk
  obtain ⟨G, hG⟩ : ∃ G, w0.heap.size = G := ⟨_, rfl⟩
  have HG := Lib.hid hG
  have hG3 : G ≤ w3.heap.size := by have := HB3.out.size; omega
  have HOW : Hid (PW ((es.map (·.l)).take 0) G (.slice (some ⟨w3.heap.size, 0, none⟩) 0 n) (w3.alloc (.cells C 25))) := Lib.hid ⟨[], by simp, by
    simpa using World.ownsRow_made (e := 25) (size := 1) w3 C n hG3 (by have := HNN.out; unfold maxLen; omega) (by have := HC.out; omega), fun r hr => by cases hr⟩
  have HAL : Hid (Below G w0 (w3.alloc (.cells C 25))) := Lib.hid ((show Below G w0 w3 by rw [← HG.out]; exact HB3.out).alloc hG3 _)
  generalize (w3.alloc (.cells C 25)) = w4 at *
  generalize w3.heap.size = G3 at *
  clear hG hG3 HB3
  go_loopw [5, 24] (fun v i wr => ∃ k : Nat, k ≤ K ∧ i = .int .i64 k ∧ Hid (PW ((es.map (·.l)).take k) G v wr) ∧ Hid (Below G w0 wr)) (fun _ i _ => K - (intOf i).toNat)
  case atStart => exact ⟨0, by omega, rfl, HOW, HAL⟩
  case round =>
    obtain ⟨k, hk, rfl, hpw, hbk⟩ := hrel
    have hsz := hbk.out.size
    have hG4 : G ≤ wr.heap.size := by have := HG.out; omega
    by_cases hlt : k < K
    · clear HOW HAL
      obtain ⟨fs, f1, f2, f3⟩ := hpw.out
      have hlen : ((es.map (·.l)).take k).length = k := by have := HLEN.out; simp; omega
      rw [hlen] at f2
      obtain ⟨Av, cv, rfl, _⟩ := own_slice f2
      obtain ⟨b, o, rfl, r, hr, hcell, hrow⟩ := (HL.out wr (by rw [HG.out]; exact hbk.out)).at_ hlt
      have hrn := HES.out r (List.mem_of_getElem? hr)
      have htk : (es.map (·.l)).take (k + 1) = (es.map (·.l)).take k ++ [r.l] := by
        have hlk : k < (es.map (·.l)).length := by have := HLEN.out; simp; omega
        rw [List.take_succ_eq_append_getElem hlk]
        have : es[k]'(by simpa using hlk) = r := by
          have h2 := List.getElem?_eq_getElem (l := es) (i := k) (by simpa using hlk)
          rw [h2] at hr; injection hr
        simp [this]
      have HTK := Lib.hid htk
      have hrl : r.l.length = Z := by rw [← hrn]; exact hrow.blen
      have HCL := Lib.hid (clone_any B r.n r.c r.A r.l wr hrow (by have := HZB.out; omega) (by have := HBB.out; have := HG.out; omega))
      have HF2 := Lib.hid f2
      have HF1 := Lib.hid f1
      have HF3 := Lib.hid f3
      have HRL := Lib.hid hrl
      have HLN := Lib.hid hlen
      have hki : (k : Int) < (K : Int) := by omega
      have HG4 := Lib.hid hG4
      clear f1 f2 f3 htk hr hrn hrow hpw hlen hrl
      go_wp2_with fail
      refine HCL.out.mono ?_
      rintro e w5 ⟨A5, m5, c5, rfl, hm5, hown5, hb5⟩
      have hm5' : m5 = Z := by rw [hm5.out]; exact HRL.out
      obtain ⟨g5, c5', hv5, hg5, _⟩ := hown5.form (by have := HZB.out; omega)
      injection hv5 with e1 e2 e3
      subst e1 e3
      subst hm5'
      have HB5 := Lib.hid hb5
      have HO5 := Lib.hid hown5
      clear hm5 hb5 hown5 HCL hcell hG4
      go_wp2_with (at_builtin; refine wpList_app rfl (.tmp 28) (.tmp 31) 31 rfl G 25 i0 (.slice none 0 0) 24 Tryd.underlying31 hi hz0 hz1 hz2 rfl _ k _ rfl (own_below HF2.out (HB5.out.alloc HB5.out.size _)) _ _ 1 1 _ rfl (row_new w5 _ _ _) (by intro u hu; simp at hu; subst hu; rfl) (by unfold maxLen; omega) (by omega) (Nat.le_trans HG4.out (HB5.out.alloc HB5.out.size _).size) ?_; intro v6 w6 hown6 hg6 hat6)
      have hbW := HB5.out.alloc HB5.out.size (.cells #[.slice (some ⟨g5, 0, none⟩) m5 c5] 25)
      have hnext : Hid (PW ((es.map (·.l)).take (k + 1)) G v6 w6) := by
        rw [HTK.out]
        exact Lib.hid (PW.app HLN.out HF1.out HF2.out HF3.out hbW (own_below HO5.out ((Below.refl _ _).alloc (Nat.le_refl _) _)) HG4.out hown6 hg6 hat6)
      have hbn : Hid (Below G w0 w6) := Lib.hid (below_app (hbk.out.trans (hbW.mono HG4.out)) (Nat.le_trans HG4.out hbW.size) (own_below HF2.out hbW) (Nat.le_refl _) hg6)
      clear hbW hown6 hg6 hat6 hbk
      go_wp2_with fail
      go_roundw
      case rel => exact ⟨k + 1, by omega, by go_num, hnext, hbn⟩
      case measure => simp [intOf]; omega
    · obtain rfl : K = k := by omega
      clear hlt HOW HAL
      have hpw0 := hpw.out
      rw [List.take_of_length_le (by have := HLEN.out; simp; omega)] at hpw0
      obtain ⟨fs0, q1, q2, q3⟩ := hpw0
      have hl0 : (es.map (·.l)).length = K := by have := HLEN.out; simpa using this
      rw [hl0] at q2
      obtain ⟨Av, cv, rfl, _⟩ := own_slice q2
      have hpw0 : PW (es.map (·.l)) G (.slice Av K cv) wr := ⟨fs0, q1, by rw [hl0]; exact q2, q3⟩
      clear q1 q2 q3 hl0
      obtain ⟨_, c0, c1, c2, c3⟩ := hkeep.out wr (by rw [HG.out]; exact hbk.out)
      have HPW := Lib.hid hpw0
      have hvlt : ∀ b, wr.heap.size ≤ b → (Value.slice Av K cv).ownBlock ≠ some b := by
        obtain ⟨fs, _, f2, _⟩ := hpw0
        intro b hb e
        have := (f2.lt b e).2
        omega
      have HVL := Lib.hid hvlt
      have HG4 := Lib.hid hG4
      clear hpw hpw0 hvlt hsz hG4
      go_wp2_with fail
      refine (HR.out wr).mono ?_
      rintro e wR ⟨gA, gs, hs, rfl, hvr, hown, hbR⟩
      have HBR := Lib.hid (hbk.out.trans (hbR.out.mono HG4.out))
      have HPR : Hid (PW (allP s K Z (es.map (·.l)) 0) G (.slice Av K cv) wR) := Lib.hid (by
        have := HPW.out.below hbR.out
        unfold allP
        simpa using this)
      have HST : Hid (Stay gA wR (.slice Av K cv) wR) := Lib.hid ⟨Nat.le_refl _, fun b h1 _ => ⟨rfl, HVL.out b (Nat.le_trans hvr.out.1 h1)⟩⟩
      have hgA := (hown.out.lt gA rfl).2
      have HGA := Lib.hid hgA
      have HVR := Lib.hid hvr.out.2
      clear c0 c1 c2 c3 HPW HVL hbR hvr hgA HR hbk HG4
      go_wp2_with fail
      go_loopw [5, 37] (fun v i wr => ∃ j : Nat, j ≤ P ∧ i = .int .i64 j ∧ Hid (PW (allP s K Z (es.map (·.l)) j) G v wr) ∧ Hid (Stay gA wR v wr) ∧ Hid (Below G w0 wr)) (fun _ i _ => P - (intOf i).toNat)
      case atStart => exact ⟨0, by omega, rfl, HPR, HST, HBR⟩
      case round =>
        obtain ⟨j, hj, rfl, hpw, hst, hbk⟩ := hrel
        have hsz := hbk.out.size
        have hG4 : G ≤ wr.heap.size := by have := HG.out; omega
        by_cases hlt : j < P
        · clear HPR HST HBR
          obtain ⟨fs, f1, f2, f3⟩ := hpw.out
          have hlen : (allP s K Z (es.map (·.l)) j).length = K + j := by have := HLEN.out; rw [allP_length]; simp; omega
          rw [hlen] at f2
          obtain ⟨Av, cv, rfl, _⟩ := own_slice f2
          have hcell : wr.cell? ⟨gA, j, none⟩ = some (.pointer (some ⟨gs j, 0, none⟩)) := by
            have h1 := (hown.out.cellAt j (by omega)).trans (pvk_get gs P P j hlt)
            rw [if_pos hlt] at h1
            rw [← h1]
            exact World.cell?_of_block (w := wR) ((hst.out.2 gA (Nat.le_refl _) HGA.out).1)
          obtain ⟨va, vb, vc⟩ := HVR.out j hlt
          have hvj : VecAt wr (gs j) (hs j) (K + P) (parJ s K j) := vc.keep (hst.out.2 _ (by omega) vc.lt.1).1 (hst.out.2 _ (by omega) vc.lt.2).1
          obtain ⟨_, c0, c1, c2, c3⟩ := hkeep.out wr (by rw [HG.out]; exact hbk.out)
          have HSU := Lib.hid (sum_any (gs j) (hs j) (K + P) (parJ s K j) Z K c B A es wr hvj (HL.out wr (by rw [HG.out]; exact hbk.out)) HES.out (by omega) (by have := HZB.out; omega) (by have := HBB.out; have := HG.out; omega))
          have HF2 := Lib.hid f2
          have HF1 := Lib.hid f1
          have HF3 := Lib.hid f3
          have HLN := Lib.hid hlen
          have hji : (j : Int) < (P : Int) := by omega
          have HG4 := Lib.hid hG4
          clear f1 f2 f3 hpw hlen va vb vc hvj hG4 hsz
          go_wp2_with fail
          refine HSU.out.mono ?_
          rintro e w5 ⟨g5, rfl, hg5, ho5, hb5⟩
          clear HSU hcell c0 c1 c2 c3
          obtain ⟨kj, hkj⟩ : ∃ kj, K + j = kj := ⟨_, rfl⟩
          rw [hkj] at HF2 HF3 HLN hst ⊢
          have hkj80 : kj ≤ 80 := by omega
          have HKJ := Lib.hid hkj
          clear hkj
          go_wp2_with (at_builtin; refine wpList_app rfl (.tmp 41) (.tmp 47) 31 rfl G 25 i0 (.slice none 0 0) 24 Tryd.underlying31 hi hz0 hz1 hz2 rfl _ kj _ rfl (own_below HF2.out (hb5.out.alloc hb5.out.size _)) _ _ 1 1 _ rfl (row_new w5 _ _ _) (by intro u hu; simp at hu; subst hu; rfl) (by unfold maxLen; omega) (by omega) (Nat.le_trans HG4.out (hb5.out.alloc hb5.out.size _).size) ?_; intro v6 w6 hown6 hg6 hat6)
          have hbW := hb5.out.alloc hb5.out.size (.cells #[.slice (some ⟨g5, 0, none⟩) Z Z] 25)
          have hnext : Hid (PW (allP s K Z (es.map (·.l)) (j + 1)) G v6 w6) := by
            rw [allP_next]
            exact Lib.hid (PW.app HLN.out HF1.out HF2.out HF3.out hbW (own_below ho5.out ((Below.refl _ _).alloc (Nat.le_refl _) _)) HG4.out hown6 hg6 hat6)
          have hbn : Hid (Below G w0 w6) := Lib.hid (below_app (hbk.out.trans (hbW.mono HG4.out)) (Nat.le_trans HG4.out hbW.size) (own_below HF2.out hbW) (Nat.le_refl _) hg6)
          have hsn : Hid (Stay gA wR v6 w6) := Lib.hid (hst.out.step hbW hg6 hat6)
          clear hbW hown6 hg6 hat6 hbk hst hb5 ho5 hg5
          go_wp2_with fail
          go_roundw
          case rel => exact ⟨j + 1, by omega, by go_num, hnext, hsn, hbn⟩
          case measure => simp [intOf]; omega
        · obtain rfl : P = j := by omega
          clear hlt HPR HST HBR
          have hfin := Lib.hid (hpw.out.mono (base' := w.heap.size) (by have := HG.out; have := HZ0.out; omega))
          have hbf : Hid (Below w.heap.size w wr) := Lib.hid (HB0.out.trans (hbk.out.mono (by have := HG.out; have := HZ0.out; omega)))
          clear hpw hst hbk
          go_wp2_with fail
          go_ret
          exact ⟨_, rfl, hfin, hbf⟩
end Go.Proofs.YtlpmammagebkfaaDoor.Pc
namespace Go.Proofs.YtlpmammagebkfaaDoor.Pc
open Go.RowKit
open VecM RdM Vc Sp
theorem results_cell_row {P : Program} {fn : Func} {p u : Tmp} {ty : TypeId} (h : fn.results = #[.cell p ty, .tmp u]) (tmps : Array Value) (w : World) (g : Nat) (t : TypeId) (cs : Array Value) (fr : Nat × Nat) (d : TypeDesc)
    (hp : tmps.getD p undef = .pointer (some ⟨g, 0, none⟩)) (hg : w.heap[g]? = some (.cells cs t fr))
    (hu : P.underlying ty = some d) (hd : (match d with | .struct _ | .array _ _ => true | _ => false) = true) (hi : (P.info? ty).map (·.size) = some cs.size) :
    (results fn tmps).run P w = .ok (.tuple #[.agg cs, tmps.getD u undef]) w := by
  rw [results_cell_tmp h, hp]
  simp [asAddr, run_loadVar_row w g t ty cs fr d hg hu hd hi]
theorem setBox {w : World} {g : Nat} {t : TypeId} {z0 z1 z2 z3 : Value} (h : w.heap[g]? = some (.cells #[z0, z1, z2, z3] t (0, 0))) (v0 v1 v2 v3 : Value) :
    ((((w.setCell ⟨g, 0, none⟩ v0).setCell ⟨g, 1, none⟩ v1).setCell ⟨g, 2, none⟩ v2).setCell ⟨g, 3, none⟩ v3).heap[g]? = some (.cells #[v0, v1, v2, v3] t (0, 0)) := by
  have h0 : (w.setCell ⟨g, 0, none⟩ v0).heap[g]? = some (.cells #[v0, z1, z2, z3] t (0, 0)) := heap_setCell_same _ g 0 _ t v0 h
  have h1 : ((w.setCell ⟨g, 0, none⟩ v0).setCell ⟨g, 1, none⟩ v1).heap[g]? = some (.cells #[v0, v1, z2, z3] t (0, 0)) := heap_setCell_same _ g 1 _ t v1 h0
  have h2 : (((w.setCell ⟨g, 0, none⟩ v0).setCell ⟨g, 1, none⟩ v1).setCell ⟨g, 2, none⟩ v2).heap[g]? = some (.cells #[v0, v1, v2, z3] t (0, 0)) := heap_setCell_same _ g 2 _ t v2 h1
  exact heap_setCell_same _ g 3 _ t v3 h2
theorem frozenBox {w : World} {g : Nat} {x y z u : Value} {t : TypeId} (h : w.heap[g]? = some (.cells #[x, y, z, u] t (0, 0))) : w.frozen? ⟨g, 0, none⟩ = false ∧ w.frozen? ⟨g, 1, none⟩ = false ∧ w.frozen? ⟨g, 2, none⟩ = false ∧ w.frozen? ⟨g, 3, none⟩ = false :=
  ⟨frozen_of_row w g 0 _ _ h, frozen_of_row w g 1 _ _ h, frozen_of_row w g 2 _ _ h, frozen_of_row w g 3 _ _ h⟩
theorem PW.set {ls : List (List UInt8)} {base b i : Nat} {v u : Value} {w : World} (h : PW ls base v w) (hb : b < base) : PW ls base v (w.setCell ⟨b, i, none⟩ u) := by
  obtain ⟨es, h1, h2, h3⟩ := h
  refine ⟨es, h1, h2.kept (grown_set1 w b i u) (.inr (fun e => by have := (h2.lt b e).1; omega)), fun r hr => ?_⟩
  obtain ⟨g, a, q, c⟩ := h3 r hr
  exact ⟨g, a, q, c.kept (grown_set1 w b i u) (.inr (fun e => by have := (c.lt b e).1; omega))⟩
theorem store_byte {wx : World} {g Z base m : Nat} {X : Int} {a : List UInt8} (ha : a.length = Z) (ho : wx.ownsRow base 5 1 (.slice (some ⟨g, 0, none⟩) Z Z) Z (bv a)) (hX : 0 ≤ X ∧ X < 256) :
    Hid (∃ a' : List UInt8, a'.length = Z ∧ (wx.setCell ⟨g, m, none⟩ (.int .u8 X)).ownsRow base 5 1 (.slice (some ⟨g, 0, none⟩) Z Z) Z (bv a')) := by
  refine ⟨a.set m (UInt8.ofNat X.toNat), by simpa using ha, ?_⟩
  have h := (ho.stored m (.int .u8 X)).1
  have e : bv (a.set m (UInt8.ofNat X.toNat)) = (bv a).set m (.int .u8 X) := by
    unfold bv
    rw [List.map_set]
    congr 1
    have : (UInt8.ofNat X.toNat).toNat = X.toNat := by rw [UInt8.toNat_ofNat']; omega
    simp [this]
    omega
  rw [e]
  exact h
def SoundOk9 (s : Nat) (w : World) (e : Ending) (w' : World) : Prop := ∃ (K P Z : Nat) (ls : List (List UInt8)) (v : Value), e = .returned (.tuple #[parV s K P Z, v]) ∧ Hid ((1 ≤ K ∧ K ≤ 64) ∧ P ≤ 16 ∧ (1 ≤ Z ∧ Z ≤ 16)) ∧ Hid (PW ls w.heap.size v w' ∧ ls.length = K ∧ ∀ l ∈ ls, l.length = Z) ∧ Hid (Below w.heap.size w w')
end Go.Proofs.YtlpmammagebkfaaDoor.Pc
namespace Go.Proofs.YtlpmammagebkfaaDoor.Pc
open Go.RowKit
open VecM RdM Vc Sp
theorem xorL_at (a b : List UInt8) (j : Nat) (h : j < a.length) : (xorL a b).getD j 0 = a.getD j 0 ^^^ b.getD j 0 := by
  unfold xorL
  rw [xl_getD a b a.length j h, if_pos h]
theorem xorL_self (a : List UInt8) : xorL a a = List.replicate a.length 0 := by
  apply List.ext_getElem?
  intro j
  by_cases h : j < a.length
  · have h2 := xl_get a a a.length j h
    unfold xorL
    rw [h2, if_pos h, UInt8.xor_self]
    simp [h]
  · rw [List.getElem?_eq_none (by rw [xorL_length]; omega), List.getElem?_eq_none (by simp; omega)]
theorem byte_mix (a b c d : UInt8) : (a ^^^ b) ^^^ (c ^^^ d) = (a ^^^ c) ^^^ (b ^^^ d) := by
  rw [UInt8.xor_assoc, ← UInt8.xor_assoc b c d, UInt8.xor_comm b c, UInt8.xor_assoc c b d, ← UInt8.xor_assoc]
/-- the sum of sums is the sum of each -/
theorem sumR_lin (X z : Nat) (l1 l2 l3 : List (List UInt8)) : ∀ k, (∀ i, i < k → ∀ j, j < z → (l3.getD i []).getD j 0 = (l1.getD i []).getD j 0 ^^^ (l2.getD i []).getD j 0) → ∀ j, j < z → (sumR X z l3 k).getD j 0 = (sumR X z l1 k).getD j 0 ^^^ (sumR X z l2 k).getD j 0
  | 0, _, j, hj => by simp [sumR, List.getD, hj]
  | k + 1, h, j, hj => by
    have ih := sumR_lin X z l1 l2 l3 k (fun i hi => h i (by omega)) j hj
    unfold sumR
    by_cases e : X.testBit k = true
    · rw [if_pos e, if_pos e, if_pos e, xorL_at _ _ _ (by rw [sumR_length]; exact hj), xorL_at _ _ _ (by rw [sumR_length]; exact hj), xorL_at _ _ _ (by rw [sumR_length]; exact hj), ih, h k (by omega) j hj, byte_mix]
    · rw [if_neg e, if_neg e, if_neg e]; exact ih
end Go.Proofs.YtlpmammagebkfaaDoor.Pc
namespace Go.Proofs.YtlpmammagebkfaaDoor.Pc
open Go.RowKit
open VecM RdM Vc Sp
/-- two lists of rows of one's own, apart from each other -/
def PQ (es fs : List BRow) (base : Nat) (u v : Value) (W : World) : Prop :=
  W.ownsRow base 25 1 u es.length (es.map BRow.val) ∧ W.ownsRow base 25 1 v fs.length (fs.map BRow.val) ∧
    (∀ r ∈ es, Pc2 W base u r ∧ Pc2 W base v r) ∧ (∀ r ∈ fs, Pc2 W base u r ∧ Pc2 W base v r) ∧ ∀ b, u.ownBlock = some b → v.ownBlock ≠ some b
def PW2 (ms ns : List (List UInt8)) (base : Nat) (u v : Value) (W : World) : Prop :=
  ∃ es fs : List BRow, es.map (·.l) = ms ∧ fs.map (·.l) = ns ∧ PQ es fs base u v W
theorem own_grown {w w' : World} {base : Nat} {e : TypeId} {v : Value} {n : Nat} {row : Option Nat} {xs : List Value} (h : w.ownsRow base e 1 v n xs) (hg : w.grownBy w' row) (hr : ∀ g, v.ownBlock = some g → row ≠ some g) : w'.ownsRow base e 1 v n xs := by
  refine ⟨h.1, ?_⟩
  rcases h.2 with h0 | ⟨g, cap, cur, rfl, hbg, hgb, r⟩
  · exact .inl h0
  · refine .inr ⟨g, cap, cur, rfl, hbg, ?_, r⟩
    rw [hg.block g (Array.getElem?_eq_some_iff.1 hgb).1 (fun e => hr g rfl e.symm)]; exact hgb
theorem Pc2.grown {W W' : World} {base : Nat} {v v' : Value} {r : BRow} {row : Option Nat} (h : Pc2 W base v r) (hg : W.grownBy W' row) (hr : ∀ g, r.A = some ⟨g, 0, none⟩ → row ≠ some g) (hv : v' = v ∨ v'.ownBlock = v.ownBlock ∨ v'.ownBlock = some W.heap.size) : Pc2 W' base v' r := by
  obtain ⟨g, a, b, c⟩ := h
  have hlt : g < W.heap.size := (c.lt g (by rw [a]; rfl)).2
  refine ⟨g, a, ?_, own_grown c hg (fun g' e => hr g' (by have e' : g = g' := (by rw [a] at e; exact Option.some.inj e); rw [← e']; exact a))⟩
  intro e
  rcases hv with h | h | h
  · rw [h] at e; exact b e
  · exact b (h.symm.trans e)
  · rw [h] at e; injection e with e; omega
theorem PQ.swap {es fs : List BRow} {base : Nat} {u v : Value} {W : World} (h : PQ es fs base u v W) : PQ fs es base v u W := by
  obtain ⟨h3, h4, h5, h6, h7⟩ := h
  exact ⟨h4, h3, fun r hr => ⟨(h6 r hr).2, (h6 r hr).1⟩, fun r hr => ⟨(h5 r hr).2, (h5 r hr).1⟩, fun b e1 e2 => h7 b e2 e1⟩
theorem PW2.fst {ms ns : List (List UInt8)} {base : Nat} {u v : Value} {W : World} (h : PW2 ms ns base u v W) : PW ms base u W := by
  obtain ⟨es, fs, h1, h2, h3, h4, h5, h6, h7⟩ := h
  exact ⟨es, h1, by rw [← h1, List.length_map]; exact h3, fun r hr => (h5 r hr).1⟩
theorem PW2.snd {ms ns : List (List UInt8)} {base : Nat} {u v : Value} {W : World} (h : PW2 ms ns base u v W) : PW ns base v W := by
  obtain ⟨es, fs, h1, h2, h3, h4, h5, h6, h7⟩ := h
  exact ⟨fs, h2, by rw [← h2, List.length_map]; exact h4, fun r hr => (h6 r hr).2⟩
theorem PW2.nil {base : Nat} {W : World} : PW2 [] [] base (.slice none 0 0) (.slice none 0 0) W :=
  ⟨[], [], rfl, rfl, World.ownsRow_nil _ _ _ _, World.ownsRow_nil _ _ _ _, fun r hr => (by cases hr), fun r hr => (by cases hr), fun b e => (by cases e)⟩
/-- the first list, with one more -/
theorem PQ.app {base g0 n0 c0 k : Nat} {u u' v : Value} {l : List UInt8} {wr W2 w5 : World} {es fs : List BRow} (hk : es.length = k) (h : PQ es fs base u v wr)
    (hb : Below wr.heap.size wr W2) (ho : W2.ownsRow base 5 1 (.slice (some ⟨g0, 0, none⟩) n0 c0) n0 (bv l)) (hgu : u.ownBlock ≠ some g0) (hgv : v.ownBlock ≠ some g0)
    (hown : w5.ownsRow base 25 1 u' (k + 1) (es.map BRow.val ++ [.slice (some ⟨g0, 0, none⟩) n0 c0])) (hg : W2.grownBy w5 u.ownBlock) (hv : u'.ownBlock = u.ownBlock ∨ u'.ownBlock = some W2.heap.size) : PQ (es ++ [⟨some ⟨g0, 0, none⟩, n0, c0, l⟩]) fs base u' v w5 := by
  subst hk
  obtain ⟨h3, h4, h5, h6, h7⟩ := h
  have hub : ∀ b, u.ownBlock = some b → b < wr.heap.size := fun b e => (h3.lt b e).2
  have hvb : ∀ b, v.ownBlock = some b → b < wr.heap.size := fun b e => (h4.lt b e).2
  have hg0 := (ho.lt g0 rfl)
  have hW := hb.size
  have mv : ∀ r, Pc2 wr base u r → Pc2 wr base v r → Pc2 w5 base u' r ∧ Pc2 w5 base v r := by
    intro r q1 q2
    have hr : ∀ g, r.A = some ⟨g, 0, none⟩ → u.ownBlock ≠ some g := by
      obtain ⟨g', a, b, _⟩ := q1
      intro g e
      rw [a] at e
      injection e with e
      injection e with e
      subst e
      exact b
    exact ⟨(q1.below hb).grown hg hr (.inr hv), (q2.below hb).grown hg hr (.inl rfl)⟩
  have hnew5 : w5.ownsRow base 5 1 (.slice (some ⟨g0, 0, none⟩) n0 c0) n0 (bv l) := own_grown ho hg (fun g e e2 => by
    have e1 : some g0 = some g := e
    injection e1 with e1
    rw [e1] at hgu
    exact hgu e2)
  refine ⟨by rw [List.length_append]; simpa [BRow.val] using hown, ?_, ?_, ?_, ?_⟩
  · exact own_grown (own_below h4 hb) hg (fun g e e2 => h7 g e2 e)
  · intro r hr
    rcases List.mem_append.1 hr with hr | hr
    · exact mv r (h5 r hr).1 (h5 r hr).2
    · obtain rfl := List.mem_singleton.1 hr
      refine ⟨⟨g0, rfl, ?_, hnew5⟩, ⟨g0, rfl, ?_, hnew5⟩⟩
      · intro e
        rcases hv with q | q
        · exact hgu (q.symm.trans e)
        · rw [q] at e; injection e with e; omega
      · exact hgv
  · exact fun r hr => mv r (h6 r hr).1 (h6 r hr).2
  · intro b e e2
    rcases hv with q | q
    · exact h7 b (q.symm.trans e) e2
    · rw [q] at e; injection e with e; have := hvb b e2; omega
/-- the three lists behind k rounds -/
def RelS (Z : Nat) (ls : List (List UInt8)) (k : Nat) (ms ns : List (List UInt8)) : Prop :=
  ms.length = k ∧ ns.length = k ∧ (∀ l ∈ ms, l.length = Z) ∧ (∀ l ∈ ns, l.length = Z) ∧ ∀ i, i < k → ∀ j, j < Z → (ns.getD i []).getD j 0 = (ls.getD i []).getD j 0 ^^^ (ms.getD i []).getD j 0
theorem RelS.next {Z k : Nat} {ls ms ns : List (List UInt8)} (h : RelS Z ls k ms ns) {a c l : List UInt8} (ha : a.length = Z) (hc : c.length = Z) (hl : ls.getD k [] = l) (hj : ∀ j, j < Z → c.getD j 0 = a.getD j 0 ^^^ l.getD j 0) : RelS Z ls (k + 1) (ms ++ [a]) (ns ++ [c]) := by
  obtain ⟨h1, h2, h3, h4, h5⟩ := h
  have g1 : ∀ i, i < k → (ms ++ [a]).getD i [] = ms.getD i [] := fun i hi => by simp only [List.getD]; rw [List.getElem?_append_left (by omega)]
  have g2 : ∀ i, i < k → (ns ++ [c]).getD i [] = ns.getD i [] := fun i hi => by simp only [List.getD]; rw [List.getElem?_append_left (by omega)]
  refine ⟨by simp [h1], by simp [h2], ?_, ?_, ?_⟩
  · intro q hq
    rcases List.mem_append.1 hq with hq | hq
    · exact h3 q hq
    · rw [List.mem_singleton.1 hq]; exact ha
  · intro q hq
    rcases List.mem_append.1 hq with hq | hq
    · exact h4 q hq
    · rw [List.mem_singleton.1 hq]; exact hc
  · intro i hi j hj2
    by_cases e : i = k
    · subst e
      have e1 : (ms ++ [a]).getD i [] = a := by simp only [List.getD]; rw [List.getElem?_append_right (by omega), h1, Nat.sub_self]; rfl
      have e2 : (ns ++ [c]).getD i [] = c := by simp only [List.getD]; rw [List.getElem?_append_right (by omega), h2, Nat.sub_self]; rfl
      rw [e1, e2, hl, hj j hj2, UInt8.xor_comm]
    · rw [g1 i (by omega), g2 i (by omega)]
      exact h5 i (by omega) j hj2
/-- two rows of noughts, made one behind the other -/
def TwoR (n gx gy : Nat) (w wx : World) : Prop :=
  gx ≠ gy ∧ wx.ownsRow w.heap.size 5 1 (.slice (some ⟨gx, 0, none⟩) n n) n (bv (List.replicate n 0)) ∧ wx.ownsRow w.heap.size 5 1 (.slice (some ⟨gy, 0, none⟩) n n) n (bv (List.replicate n 0)) ∧ Below w.heap.size w wx
theorem twoR_new (n : Nat) (hn : n ≤ 1000) (w : World) : TwoR n w.heap.size (w.heap.size + 1) w ((w.alloc (.cells (Array.replicate n (.int .u8 0)) 5)).alloc (.cells (Array.replicate n (.int .u8 0)) 5)) := by
  have h1 := own_lit (w := w) (base := w.heap.size) (g := w.heap.size) (n := n) (e := 5) (Array.replicate n (.int .u8 0)) rfl (Nat.le_refl _) (by simp) (by unfold maxLen; omega)
  have h2 := own_lit (w := w.alloc (.cells (Array.replicate n (.int .u8 0)) 5)) (base := w.heap.size) (g := w.heap.size + 1) (n := n) (e := 5) (Array.replicate n (.int .u8 0)) (by simp) (by omega) (by simp) (by unfold maxLen; omega)
  have hb : Below (w.alloc (.cells (Array.replicate n (.int .u8 0)) 5)).heap.size (w.alloc (.cells (Array.replicate n (.int .u8 0)) 5)) ((w.alloc (.cells (Array.replicate n (.int .u8 0)) 5)).alloc (.cells (Array.replicate n (.int .u8 0)) 5)) := (Below.refl _ _).alloc (Nat.le_refl _) _
  have e : (Array.replicate n (Value.int .u8 0)).toList = bv (List.replicate n 0) := by simp [bv]
  rw [e] at h1 h2
  exact ⟨by omega, own_below h1 hb, h2, ((Below.refl _ _).alloc (Nat.le_refl _) _).alloc (by simp) _⟩
theorem TwoR.swap {n gx gy : Nat} {w wx : World} (h : TwoR n gx gy w wx) : TwoR n gy gx w wx := ⟨h.1.symm, h.2.2.1, h.2.1, h.2.2.2⟩
theorem TwoR.drew {n gx gy : Nat} {w wx : World} (h : TwoR n gx gy w.drew wx) : TwoR n gx gy w wx := ⟨h.1, h.2.1, h.2.2.1, (Below.refl _ _).drew.trans h.2.2.2⟩
/-- both rows behind m rounds of the inner loop -/
def XY (n gx gy : Nat) (rl : List UInt8) (m : Nat) (w wr : World) : Prop :=
  (∃ a c : List UInt8, a.length = n ∧ c.length = n ∧ (∀ j, j < m → c.getD j 0 = a.getD j 0 ^^^ rl.getD j 0) ∧ wr.ownsRow w.heap.size 5 1 (.slice (some ⟨gx, 0, none⟩) n n) n (bv a) ∧ wr.ownsRow w.heap.size 5 1 (.slice (some ⟨gy, 0, none⟩) n n) n (bv c)) ∧ Below w.heap.size w wr
theorem XY.drew {n gx gy m : Nat} {rl : List UInt8} {w wr : World} (h : Hid (XY n gx gy rl m w wr)) : Hid (XY n gx gy rl m w wr.drew) := by
  obtain ⟨⟨a, c, h1, h2, h3, h4, h5⟩, hb⟩ := h.out
  exact Lib.hid ⟨⟨a, c, h1, h2, h3, h4, h5⟩, hb.drew⟩
theorem bv_set' (a : List UInt8) (m : Nat) (X : UInt8) : (bv a).set m (.int .u8 (X.toNat : Int)) = bv (a.set m X) := by
  unfold bv
  rw [List.map_set]
theorem mul_byte (m ot k : Nat) (hk : k < 256) : bits .xor .u8 (((m : Int) + 1) * (ot : Int) % 256) (k : Int) = ((UInt8.ofNat ((m + 1) * ot) ^^^ UInt8.ofNat k).toNat : Int) := by
  have h1 : ((m : Int) + 1) * (ot : Int) % 256 = ((UInt8.ofNat ((m + 1) * ot)).toNat : Int) := by
    rw [UInt8.toNat_ofNat', Int.natCast_emod, Int.natCast_mul, Int.natCast_add]
    rfl
  have h2 : (k : Int) = ((UInt8.ofNat k).toNat : Int) := by
    rw [UInt8.toNat_ofNat']; omega
  rw [h1]
  conv => lhs; rw [h2]
  exact xor_int _ _
theorem XY.next {n gx gy m : Nat} {rl a c : List UInt8} {X Y : UInt8} {w wr : World} (hne : gx ≠ gy) (ha : a.length = n) (hc : c.length = n) (hj : ∀ j, j < m → c.getD j 0 = a.getD j 0 ^^^ rl.getD j 0) (hm : m < n) (hY : Y = X ^^^ rl.getD m 0)
    (hoa : wr.ownsRow w.heap.size 5 1 (.slice (some ⟨gx, 0, none⟩) n n) n (bv (a.set m X))) (hoc : wr.ownsRow w.heap.size 5 1 (.slice (some ⟨gy, 0, none⟩) n n) n (bv c)) (hb : Below w.heap.size w wr) :
    Hid (XY n gx gy rl (m + 1) w (wr.setCell ⟨gy, m, none⟩ (.int .u8 (Y.toNat : Int)))) := by
  have h1 := (hoc.stored m (.int .u8 (Y.toNat : Int))).1
  rw [bv_set'] at h1
  have h2 := hoa.kept (grown_set1 wr gy m (.int .u8 (Y.toNat : Int))) (.inr (fun e => hne (Option.some.inj e)))
  refine Lib.hid ⟨⟨a.set m X, c.set m Y, by simpa using ha, by simpa using hc, fun j hj2 => ?_, h2, h1⟩, hb.setCell ((hoc.lt gy rfl).1) _⟩
  simp only [List.getD, List.getElem?_set]
  by_cases e : m = j
  · subst e
    rw [if_pos rfl, if_pos rfl, if_pos (by omega), if_pos (by omega), hY]; rfl
  · rw [if_neg e, if_neg e]
    exact hj j (by omega)
theorem allP_len {s K Z P : Nat} {ls : List (List UInt8)} (h : ∀ l ∈ ls, l.length = Z) : ∀ l ∈ allP s K Z ls P, l.length = Z := by
  intro l hl
  unfold allP at hl
  rcases List.mem_append.1 hl with hl | hl
  · exact h l hl
  · obtain ⟨i, _, e⟩ := List.mem_map.1 hl
    rw [← e, sumR_length]
theorem allP_lin {s K Z P : Nat} {ls ms ns : List (List UInt8)} (hl : ls.length = K) (h : RelS Z ls K ms ns) (i : Nat) (hi : i < K + P) (j : Nat) (hj : j < Z) :
    ((allP s K Z ns P).getD i []).getD j 0 = ((allP s K Z ls P).getD i []).getD j 0 ^^^ ((allP s K Z ms P).getD i []).getD j 0 := by
  obtain ⟨h1, h2, _, _, h5⟩ := h
  have g : ∀ l : List (List UInt8), l.length = K → (allP s K Z l P).getD i [] = if i < K then l.getD i [] else sumR (parJ s K (i - K)) Z l K := by
    intro l hl
    unfold allP
    by_cases e : i < K
    · rw [if_pos e, List.getD_eq_getElem?_getD, List.getElem?_append_left (by omega)]; rfl
    · rw [if_neg e, List.getD_eq_getElem?_getD, List.getElem?_append_right (by omega), hl]
      have : i - K < P := by omega
      simp [this]
  rw [g ns h2, g ls hl, g ms h1]
  by_cases e : i < K
  · rw [if_pos e, if_pos e, if_pos e]; exact h5 i e j hj
  · rw [if_neg e, if_neg e, if_neg e]
    exact sumR_lin _ Z ls ms ns K h5 j hj
theorem rows2_at2 {w : World} {B n : Nat} {A : Option Addr} {es : List BRow} (h : Rows2 w B A n es) (hB : B ≤ w.heap.size) {k : Nat} (hk : k < n) :
    ∃ b o r, A = some ⟨b, o, none⟩ ∧ es[k]? = some r ∧ ∀ W, Below w.heap.size w W → W.cell? ⟨b, o + k, none⟩ = some (.slice r.A r.n r.c) ∧ Row W B r.A r.n (bv r.l) := by
  have hl : k < es.length := by have := h.1.1; simp at this; omega
  obtain ⟨b, o, e, hlt, hc⟩ := h.1.cellAt hk (u := es[k].val) (by simp [hl])
  exact ⟨b, o, es[k], e, by simp [hl], fun W hW => ⟨(hW.cell (p := ⟨b, o + k, none⟩) (Nat.lt_of_lt_of_le hlt hB)).trans hc, (h.2 _ (List.getElem_mem hl)).below (hW.mono hB)⟩⟩
end Go.Proofs.YtlpmammagebkfaaDoor.Pc
namespace Go.Proofs.YtlpmammagebkfaaDoor.Cd
open Go.RowKit
open VecM RdM Vc Sp Pc
/-- the pieces of an image -/
def pcsL (img : List UInt8) (Z K : Nat) : List (List UInt8) := (List.range K).map (BlkM.piece img Z)
theorem pcsL_length (img : List UInt8) (Z K : Nat) : (pcsL img Z K).length = K := by simp [pcsL]
theorem pcsL_z {img : List UInt8} {Z K : Nat} : ∀ l ∈ pcsL img Z K, l.length = Z := by
  intro l hl
  obtain ⟨j, _, rfl⟩ := List.mem_map.1 hl
  exact BlkM.piece_length _ _ _
theorem pcsL_get {img : List UInt8} {Z K i : Nat} (h : i < K) : (pcsL img Z K).getD i [] = BlkM.piece img Z i := by simp [pcsL, List.getD, h]
/-- all pieces, those of parity behind -/
def allC (s K P Z : Nat) (img : List UInt8) : List (List UInt8) := allP s K Z (pcsL img Z K) P
theorem allC_length (s K P Z : Nat) (img : List UInt8) : (allC s K P Z img).length = K + P := by unfold allC; rw [allP_length, pcsL_length]
theorem allC_z {s K P Z : Nat} {img : List UInt8} : ∀ l ∈ allC s K P Z img, l.length = Z := allP_len pcsL_z
theorem getD_mem {α : Type} {l : List α} {i : Nat} {d : α} (h : i < l.length) : l.getD i d ∈ l := by
  rw [List.getD_eq_getElem?_getD, List.getElem?_eq_getElem h]; exact List.getElem_mem h
theorem allC_zi {s K P Z i : Nat} {img : List UInt8} (h : i < K + P) : ((allC s K P Z img).getD i []).length = Z := allC_z _ (getD_mem (by rw [allC_length]; exact h))
theorem allC_first {s K P Z i : Nat} {img : List UInt8} (h : i < K) : (allC s K P Z img).getD i [] = BlkM.piece img Z i := by
  have hl : i < (pcsL img Z K).length := by rw [pcsL_length]; exact h
  unfold allC allP
  rw [List.getD_eq_getElem?_getD, List.getElem?_append_left hl, ← List.getD_eq_getElem?_getD, pcsL_get h]
theorem allC_prefix {s K P Q Z i : Nat} {img : List UInt8} (hQ : Q ≤ P) (h : i < K + Q) : (allC s K Q Z img).getD i [] = (allC s K P Z img).getD i [] := by
  by_cases hk : i < K
  · rw [allC_first hk, allC_first hk]
  · unfold allC allP
    have e1 : i - K < Q := by omega
    have e2 : i - K < P := by omega
    rw [List.getD_eq_getElem?_getD, List.getD_eq_getElem?_getD, List.getElem?_append_right (by rw [pcsL_length]; omega), List.getElem?_append_right (by rw [pcsL_length]; omega), pcsL_length]
    simp [e1, e2]
theorem allC_take (s K P Z : Nat) (img : List UInt8) : (allC s K P Z img).take K = pcsL img Z K := by
  unfold allC allP
  rw [List.take_append_of_le_length (by rw [pcsL_length]; exact Nat.le_refl _), List.take_of_length_le (by rw [pcsL_length]; exact Nat.le_refl _)]
theorem pcsL_flat {img : List UInt8} {Z K : Nat} (h : img.length ≤ K * Z) : ((pcsL img Z K).flatMap id).take img.length = img := by
  have e : (pcsL img Z K).flatMap id = ((List.range K).map (BlkM.piece img Z)).flatten := by simp [pcsL, List.flatMap_def]
  rw [e, BlkM.pieces_flat img Z K h, BlkM.pad_take]
end Go.Proofs.YtlpmammagebkfaaDoor.Cd
namespace Go.Proofs.YtlpmammagebkfaaDoor
open Go.RowKit
theorem div_le_iff (c N : Nat) (h : 1 ≤ c) : (c : Int) ≤ (N : Int) / (c : Int) ↔ c * c ≤ N := by
  rw [← Int.natCast_ediv, Int.ofNat_le]
  exact Nat.le_div_iff_mul_le (by omega)
theorem tdiv_neg (n b : Int) (hn : n < 1) (hb : 1 ≤ b) : ¬ b ≤ n.tdiv b := by
  have h : n.tdiv b ≤ 0 := by
    obtain ⟨m, rfl⟩ : ∃ m : Nat, n = -(m : Int) := ⟨(-n).toNat, by omega⟩
    obtain ⟨k, rfl⟩ : ∃ k : Nat, b = (k : Int) := ⟨b.toNat, by omega⟩
    have h0 : 0 ≤ (m : Int) / (k : Int) := Int.ediv_nonneg (by omega) (by omega)
    rw [Int.neg_tdiv, ← Int.ofNat_tdiv]
    omega
  omega
theorem sq_step (r b N : Nat) (h : (r + b) * (r + b) ≤ N) (h2 : N < (r + 2 * b) * (r + 2 * b)) : N < (r + b + b) * (r + b + b) := by
  rwa [show r + b + b = r + 2 * b by omega]
set_option maxHeartbeats 1600000 in
theorem root_neg (n : Int) (hn : n < 1) (h0 : -9223372036854775808 ≤ n) (w : World) : Calls Tryd.prog 73 #[.int .i64 n] w fun e w' => e = .returned (.int .i64 0) ∧ w = w' := by
  go_enter Tryd.func73, Tryd.ntmps73
  go_wp2_with fail
  go_loop [3, 4] (fun r t => ∃ b : Nat, b ≤ 2147483648 ∧ r = .int .i64 0 ∧ t = .int .i64 b) (fun _ t => (intOf t).toNat)
  case atStart => exact ⟨2147483648, by omega, rfl, rfl⟩
  case round =>
    obtain ⟨b, hb, rfl, rfl⟩ := hrel
    by_cases hb0 : b = 0
    · subst hb0
      go_wp2_with fail
      go_ret
      exact ⟨rfl, rfl⟩
    · have hb1 : (1 : Int) ≤ (b : Int) := by omega
      have hbl : (b : Int) ≤ 2147483648 := by omega
      have ht := tdiv_neg n b hn hb1
      have hb2 : ¬ (b : Int) = 0 := by omega
      go_wp2_with fail
      go_round
      case rel => exact ⟨b / 2, by omega, rfl, by go_num⟩
      case measure => simp [intOf]; omega
set_option maxHeartbeats 1600000 in
theorem root_pos (N : Nat) (h1 : 1 ≤ N) (h2 : N ≤ 9223372036854775807) (w : World) : Calls Tryd.prog 73 #[.int .i64 (N : Int)] w fun e w' => (∃ r : Nat, e = .returned (.int .i64 (r : Int)) ∧ Hid (1 ≤ r ∧ r ≤ 4294967295 ∧ r * r ≤ N ∧ N < (r + 1) * (r + 1))) ∧ w = w' := by
  have H2 := Lib.hid h2
  have hNi : (N : Int) ≤ 9223372036854775807 := by omega
  have HNI := Lib.hid hNi
  clear h2 hNi
  go_enter Tryd.func73, Tryd.ntmps73
  go_wp2_with fail
  go_loop [3, 4] (fun r t => ∃ (j rr : Nat), j ≤ 32 ∧ r = .int .i64 rr ∧ t = .int .i64 (2 ^ j / 2 : Nat) ∧ Hid (rr + 2 ^ j ≤ 4294967296 ∧ rr * rr ≤ N ∧ N < (rr + 2 ^ j) * (rr + 2 ^ j))) (fun _ t => (intOf t).toNat)
  case atStart => exact ⟨32, 0, by omega, rfl, rfl, by omega, by omega, by have := H2.out; omega⟩
  case round =>
    obtain ⟨j, r, hj, rfl, rfl, hI⟩ := hrel
    cases j with
    | zero =>
      have hI2 : Hid (1 ≤ r ∧ r ≤ 4294967295 ∧ r * r ≤ N ∧ N < (r + 1) * (r + 1)) := by
        obtain ⟨a, b, c⟩ := hI.out
        simp at a c
        refine ⟨?_, by omega, b, c⟩
        rcases Nat.eq_zero_or_pos r with h | h
        · subst h; simp at c; omega
        · exact h
      have e0 : (2 ^ 0 / 2 : Nat) = 0 := rfl
      rw [e0]
      clear e0
      go_wp2_with fail
      go_ret
      exact ⟨⟨r, rfl, hI2⟩, rfl⟩
    | succ j =>
      obtain ⟨b, hb⟩ : ∃ b : Nat, b = 2 ^ j := ⟨_, rfl⟩
      have e1 : (2 ^ (j + 1) / 2 : Nat) = b := by rw [hb, Nat.pow_succ]; omega
      have e2 : (2 ^ (j + 1) : Nat) = 2 * b := by rw [hb, Nat.pow_succ]; omega
      have hb1 : 1 ≤ b := by rw [hb]; exact Nat.one_le_two_pow
      rw [e2] at hI
      rw [e1]
      have HB := Lib.hid hb
      have hI' := hI.out
      have hrb : r + b ≤ 4294967296 := by have := hI'.1; omega
      have hbl : b ≤ 4294967296 := by omega
      clear hb e1 e2
      have hbi : (1 : Int) ≤ (b : Int) := by omega
      have hci : (1 : Int) ≤ (r : Int) + (b : Int) := by omega
      have hcl : (r : Int) + (b : Int) ≤ 4294967296 := by omega
      have hc0 : ¬ (r : Int) + (b : Int) = 0 := by omega
      have hdv := div_le_iff (r + b) N (by omega)
      rw [Int.natCast_add] at hdv
      have HDV := Lib.hid hdv
      have HRB := Lib.hid hrb
      clear hI' hdv hrb
      have hNI := HNI.out
      have hq0 : (0 : Int) ≤ (N : Int) / ((r : Int) + (b : Int)) := Int.ediv_nonneg (by omega) (by omega)
      have hq1 : (N : Int) / ((r : Int) + (b : Int)) ≤ 9223372036854775807 := Int.le_trans (Int.ediv_le_self _ (by omega)) hNI
      go_wp2_with fail
      · have hle := HDV.out.1 (by assumption)
        have HLE := Lib.hid hle
        clear hle
        go_round
        case rel => exact ⟨j, r + b, by omega, by go_num, by rw [← HB.out]; go_num, by
          show _ ∧ _ ∧ _
          rw [← HB.out]
          have := hI.out
          exact ⟨by omega, HLE.out, sq_step r b N HLE.out this.2.2⟩⟩
        case measure => simp [intOf]; omega
      · have hlq : (N : Int) / ((r : Int) + (b : Int)) < (r : Int) + (b : Int) := by assumption
        have hle : ¬ (r + b) * (r + b) ≤ N := fun h => absurd (HDV.out.2 h) (Int.not_le.2 hlq)
        have HLE := Lib.hid hle
        clear hle
        go_round
        case rel => exact ⟨j, r, by omega, rfl, by rw [← HB.out]; go_num, by
          show _ ∧ _ ∧ _
          rw [← HB.out]
          have := hI.out
          have h3 := HLE.out
          exact ⟨by omega, this.2.1, by omega⟩⟩
        case measure => simp [intOf]; omega
end Go.Proofs.YtlpmammagebkfaaDoor
namespace Go.Proofs.YtlpmammagebkfaaDoor
namespace SoM
/-- the root, of up to 80 -/
def rt (n : Nat) : Nat := if n < 1 then 0 else if n < 4 then 1 else if n < 9 then 2 else if n < 16 then 3 else if n < 25 then 4 else if n < 36 then 5 else if n < 49 then 6 else if n < 64 then 7 else 8
theorem rt_eq (n r : Nat) (h1 : 1 ≤ n) (h2 : n ≤ 80) (h3 : r * r ≤ n) (h4 : n < (r + 1) * (r + 1)) : r = rt n := by
  have h : r ≤ 8 := by
    rcases Nat.lt_or_ge 8 r with h | h
    · have := Nat.mul_le_mul (show 9 ≤ r by omega) (show 9 ≤ r by omega)
      omega
    · exact h
  have : r = 0 ∨ r = 1 ∨ r = 2 ∨ r = 3 ∨ r = 4 ∨ r = 5 ∨ r = 6 ∨ r = 7 ∨ r = 8 := by omega
  unfold rt
  rcases this with rfl | rfl | rfl | rfl | rfl | rfl | rfl | rfl | rfl <;> simp at h3 h4 <;> (repeat' split) <;> omega
def ideal (n d : Nat) : Nat := if d = 1 then 1048576 / n else 1048576 / (d * (d - 1))
def wt (n d : Nat) : Nat := ideal n d + if d < n / rt n then rt n * 262144 / (d * n) else if d = n / rt n then rt n * 524288 / n else 0
def ws (n k : Nat) : List Nat := (List.range k).map fun j => wt n (j + 1)
/-- the sum of the first k weights -/
def sm (n : Nat) : Nat → Nat
  | 0 => 0
  | k + 1 => sm n k + wt n (k + 1)
def sms (n k : Nat) : List Nat := (List.range k).map fun j => sm n (j + 1)
theorem all2 (p : Nat → Nat → Bool) (h : ((List.range 81).all fun n => (List.range 81).all fun d => p n d) = true) (n d : Nat) (hn : n < 81) (hd : d < 81) : p n d = true :=
  List.all_eq_true.1 (List.all_eq_true.1 h n (List.mem_range.2 hn)) d (List.mem_range.2 hd)
def okW (n d : Nat) : Bool := n == 0 || d == 0 || decide (n < d) || (decide (1 ≤ wt n d) && decide (wt n d ≤ 4000000) && decide (ideal n d ≤ 1048576) && decide (sm n d ≤ 4000000) && decide (1 ≤ rt n) && decide (rt n ≤ 8) && decide (1 ≤ sm n d))
theorem okW_all : ((List.range 81).all fun n => (List.range 81).all fun d => okW n d) = true := by decide +kernel
theorem wt_bound (n d : Nat) (hn : 1 ≤ n) (hn2 : n ≤ 80) (hd : 1 ≤ d) (hd2 : d ≤ n) : 1 ≤ wt n d ∧ wt n d ≤ 4000000 ∧ ideal n d ≤ 1048576 ∧ sm n d ≤ 4000000 ∧ 1 ≤ rt n ∧ rt n ≤ 8 ∧ 1 ≤ sm n d := by
  have h := all2 okW okW_all n d (by omega) (by omega)
  simp only [okW, Bool.or_eq_true, Bool.and_eq_true, beq_iff_eq, decide_eq_true_eq] at h
  omega
end SoM
end Go.Proofs.YtlpmammagebkfaaDoor
namespace Go.Proofs.YtlpmammagebkfaaDoor
open Go.RowKit
open SoM
def Tab (w : World) (g n : Nat) (d m : Int) (v : Value) : Prop := w.heap[g]? = some (.cells #[.int .i64 (n : Int), .int .u32 d, .int .i32 m, .int .u32 0, v] 90 (0, 0))
theorem Tab.cells {w : World} {g n : Nat} {d m : Int} {v : Value} (h : Tab w g n d m v) : w.cell? ⟨g, 0, none⟩ = some (.int .i64 (n : Int)) ∧ w.cell? ⟨g, 1, none⟩ = some (.int .u32 d) ∧ w.cell? ⟨g, 2, none⟩ = some (.int .i32 m) ∧ w.cell? ⟨g, 3, none⟩ = some (.int .u32 0) ∧ w.cell? ⟨g, 4, none⟩ = some v := by
  refine ⟨?_, ?_, ?_, ?_, ?_⟩ <;> rw [cell_of_row w g _ _ _ (0, 0) h] <;> rfl
theorem Tab.frozen {w : World} {g n : Nat} {d m : Int} {v : Value} (h : Tab w g n d m v) (j : Nat) : w.frozen? ⟨g, j, none⟩ = false := frozen_of_row w g j _ _ h
theorem Tab.lt {w : World} {g n : Nat} {d m : Int} {v : Value} (h : Tab w g n d m v) : g < w.heap.size := (Array.getElem?_eq_some_iff.1 h).1
theorem Tab.below {w w' : World} {B g n : Nat} {d m : Int} {v : Value} (h : Tab w g n d m v) (hb : Below B w w') (hg : g < B) : Tab w' g n d m v := (hb.block g hg).trans h
theorem empty_nil (w : World) : Calls Tryd.prog 41 #[.pointer none] w fun e w' => e = .returned (.bool true) ∧ w = w' := by
  go_enter Tryd.func41, Tryd.ntmps41
  go_wp2
  go_ret
  exact ⟨rfl, rfl⟩
theorem empty_no (g n : Nat) (d m : Int) (v : Value) (w : World) (h : Tab w g n d m v) (h1 : 1 ≤ n) : Calls Tryd.prog 41 #[.pointer (some ⟨g, 0, none⟩)] w fun e w' => e = .returned (.bool false) ∧ w = w' := by
  obtain ⟨c0, _, _, _, _⟩ := h.cells
  have hn : ((n : Int) == 0) = false := by simp; omega
  clear h
  go_enter Tryd.func41, Tryd.ntmps41
  go_wp2
  go_ret
  exact ⟨rfl, rfl⟩
theorem new_out (n : Int) (w : World) (h : n < 1 ∨ 80 < n) : Calls Tryd.prog 25 #[.int .i64 n] w fun e w' => e = .returned (.pointer none) ∧ w = w' := by
  by_cases h1 : n < 1
  · go_enter Tryd.func25, Tryd.ntmps25
    go_wp2
    go_ret
    exact ⟨rfl, rfl⟩
  · have h2 : 80 < n := by omega
    go_enter Tryd.func25, Tryd.ntmps25
    go_wp2
    go_ret
    exact ⟨rfl, rfl⟩
theorem new_in (n : Nat) (w : World) (h1 : 1 ≤ n) (h2 : n ≤ 80) : Calls Tryd.prog 25 #[.int .i64 (n : Int)] w fun e w' => e = .returned (.pointer (some ⟨w.heap.size, 0, none⟩)) ∧ Hid (Tab w' w.heap.size n 0 0 (.slice none 0 0)) ∧ Hid (Below w.heap.size w w') := by
  go_enter Tryd.func25, Tryd.ntmps25
  go_wp2
  go_ret
  exact ⟨rfl, heap_alloc_new w _, (Below.refl _ _).alloc (Nat.le_refl _) _⟩
theorem ideal_any (n d : Nat) (w : World) (h1 : 1 ≤ n) (h2 : n ≤ 80) (h3 : 1 ≤ d) (h4 : d ≤ 80) : Calls Tryd.prog 74 #[.int .i64 (n : Int), .int .i64 (d : Int)] w fun e w' => e = .returned (.int .i64 (ideal n d : Nat)) ∧ w = w' := by
  by_cases hd : d = 1
  · subst hd
    have hn : ¬ (n : Int) = 0 := by omega
    go_enter Tryd.func74, Tryd.ntmps74
    go_wp2
    go_ret
    refine ⟨?_, rfl⟩
    simp [ideal]
  · obtain ⟨p, rfl⟩ : ∃ p, d = p + 1 := ⟨d - 1, by omega⟩
    obtain ⟨q, hq⟩ : ∃ q : Nat, q = (p + 1) * p := ⟨_, rfl⟩
    have hq1 : 1 ≤ q := by rw [hq]; exact Nat.mul_pos (by omega) (by omega)
    have hq2 : q ≤ 6400 := by
      have := Nat.mul_le_mul (show p + 1 ≤ 80 by omega) (show p ≤ 80 by omega)
      omega
    have hd1 : (((p : Int) + 1) == 1) = false := by simp; omega
    have hp0 : ¬ (p : Int) = 0 := by omega
    have hpp : 0 ≤ (p : Int) := by omega
    have hpl : (p : Int) ≤ 80 := by omega
    have hm : ((p : Int) + 1) * (p : Int) = (q : Int) := by rw [hq]; push_cast; rfl
    have hq0 : ¬ (q : Int) = 0 := by omega
    have HQ := Lib.hid hq
    clear hq hd
    go_enter Tryd.func74, Tryd.ntmps74
    go_wp2
    go_ret
    refine ⟨?_, rfl⟩
    unfold ideal
    rw [if_neg (by omega), Nat.add_sub_cancel, ← HQ.out]
    simp
end Go.Proofs.YtlpmammagebkfaaDoor
namespace Go.Proofs.YtlpmammagebkfaaDoor
open Go.RowKit
open SoM
def uv (l : List Nat) : List Value := l.map fun (x : Nat) => Value.int .u32 (x : Int)
theorem uv_length (l : List Nat) : (uv l).length = l.length := by simp [uv]
theorem uv_get (l : List Nat) (k : Nat) (h : k < l.length) : (uv l)[k]? = some (.int .u32 (l.getD k 0 : Nat)) := by simp [uv, h, List.getD]
theorem Tryd.info22 : (Tryd.prog.info? 22).map (fun i => (i.zero, i.size, i.bytes)) = some (some (.int .u32 0), 1, 4) := by kernel_rfl
theorem mk_u32 (c : Nat) (hc : c ≤ 1000000) (w : World) : (Instr.makeSlice 104 (.int .i64 (c : Int)) (.int .i64 (c : Int))).run Tryd.prog w = .ok (.slice (some ⟨w.heap.size, 0, none⟩) c c) (w.alloc (.cells (Array.replicate c (.int .u32 0)) 22)) := by
  obtain ⟨i0, hi, hz0, hz1, hz2⟩ := info_parts Tryd.info22
  have := run_make (P := Tryd.prog) w 104 22 i0 (.int .u32 0) Tryd.underlying104 hi hz0 .i64 .i64 c c (by omega) (Int.le_refl _) (by rw [hz2]; omega) (by omega)
  have e : madeCells #[Value.int .u32 0] c = Array.replicate c (.int .u32 0) := by
    apply Array.toList_inj.1
    rw [toList_madeCells_one]; simp
  simpa [hz1, Value.cells, e] using this
/-- the first k weights of n, then noughts -/
def wsl (n k : Nat) : List Nat := (List.range n).map fun j => if j < k then wt n (j + 1) else 0
theorem wsl_length (n k : Nat) : (wsl n k).length = n := by simp [wsl]
theorem wsl_get (n k j : Nat) (h : j < n) : (wsl n k)[j]? = some (if j < k then wt n (j + 1) else 0) := by simp [wsl, h]
theorem wsl_zero (n : Nat) : wsl n 0 = List.replicate n 0 := by
  apply List.ext_getElem <;> simp [wsl]
theorem wsl_all (n : Nat) : wsl n n = ws n n := by
  apply List.ext_getElem?
  intro j
  by_cases h : j < n
  · rw [wsl_get n n j h]; simp [ws, h]
  · rw [List.getElem?_eq_none (by rw [wsl_length]; omega), List.getElem?_eq_none (by simp [ws]; omega)]
theorem wsl_set (n k : Nat) (h : k < n) : (wsl n k).set k (wt n (k + 1)) = wsl n (k + 1) := by
  apply List.ext_getElem?
  intro j
  rw [List.getElem?_set]
  by_cases hj : j < n
  · rw [wsl_get n (k + 1) j hj]
    by_cases e : k = j
    · subst e; simp [wsl_length, h]
    · rw [if_neg e, wsl_get n k j hj]
      by_cases h1 : j < k
      · rw [if_pos h1, if_pos (by omega)]
      · rw [if_neg h1, if_neg (by omega)]
  · rw [List.getElem?_eq_none (by rw [wsl_length]; omega)]
    rw [List.getElem?_eq_none (by rw [wsl_length]; omega)]
    split
    · split
      · rename_i h3; rw [wsl_length] at h3; omega
      · rfl
    · rfl
theorem uv_set (l : List Nat) (k v : Nat) : (uv l).set k (.int .u32 (v : Nat)) = uv (l.set k v) := by simp [uv, List.map_set]
theorem root_rt (n : Nat) (h1 : 1 ≤ n) (h2 : n ≤ 80) (w : World) : Calls Tryd.prog 73 #[.int .i64 (n : Int)] w fun e w' => e = .returned (.int .i64 (rt n : Nat)) ∧ w = w' := by
  refine (root_pos n h1 (by omega) w).mono ?_
  rintro e w' ⟨⟨r, rfl, hr⟩, rfl⟩
  obtain ⟨_, _, a, b⟩ := hr.out
  rw [rt_eq n r h1 h2 a b]
  exact ⟨rfl, rfl⟩
theorem weights_nil (w : World) : Calls Tryd.prog 54 #[.pointer none] w fun e w' => e = .returned (.slice none 0 0) ∧ w = w' := by
  go_enter Tryd.func54, Tryd.ntmps54
  go_wp2_with (go_at_call 41; refine (empty_nil _).mono ?_; rintro e w' ⟨rfl, rfl⟩)
  go_ret
  exact ⟨rfl, rfl⟩
theorem wt_lt (n d R M P Q : Nat) (hR : rt n = R) (hM : n / R = M) (hP : d * n = P) (hQ : R * 262144 / P = Q) (h : d < M) : wt n d = ideal n d + Q := by
  unfold wt; rw [hR, hM, if_pos h, hP, hQ]
theorem wt_eq (n d R M Q : Nat) (hR : rt n = R) (hM : n / R = M) (hQ : R * 524288 / n = Q) (h : d = M) : wt n d = ideal n d + Q := by
  unfold wt; rw [hR, hM, if_neg (by omega), if_pos h, hQ]
theorem wt_gt (n d R M : Nat) (hR : rt n = R) (hM : n / R = M) (h : M < d) : wt n d = ideal n d := by
  unfold wt; rw [hR, hM, if_neg (by omega), if_neg (by omega)]; rfl
def WtOk (n : Nat) (w : World) (e : Ending) (w' : World) : Prop :=
  ∃ A c, e = .returned (.slice A n c) ∧ Hid (w'.ownsRow w.heap.size 22 1 (.slice A n c) n (uv (ws n n))) ∧ Hid (Below w.heap.size w w')
set_option maxRecDepth 100000 in
set_option maxHeartbeats 3200000 in
theorem weights_any (g n : Nat) (dn m0 : Int) (v : Value) (w : World) (h : Tab w g n dn m0 v) (h1 : 1 ≤ n) (h2 : n ≤ 80) : Calls Tryd.prog 54 #[.pointer (some ⟨g, 0, none⟩)] w (WtOk n w) := by
  obtain ⟨_, _, _, _, hR1, hR8, _⟩ := wt_bound n 1 h1 h2 (by omega) (by omega)
  obtain ⟨R, hR⟩ : ∃ R, rt n = R := ⟨_, rfl⟩
  rw [hR] at hR1 hR8
  have HRT := Lib.hid (root_rt n h1 h2)
  rw [hR] at HRT
  obtain ⟨M, hM⟩ : ∃ M, n / R = M := ⟨_, rfl⟩
  have hMi : (n : Int) / (R : Int) = (M : Int) := by rw [← Int.natCast_ediv, hM]
  have hMn : M ≤ n := by rw [← hM]; exact Nat.div_le_self _ _
  have hmk := mk_u32 n (by omega) w
  have HT := Lib.hid h
  have hlt := h.lt
  obtain ⟨c0, _, _, _, _⟩ := h.cells
  have hR0 : ¬ (R : Int) = 0 := by omega
  have HR := Lib.hid hR
  have HM := Lib.hid hM
  have HMI := Lib.hid hMi
  have hMi' := hMi
  clear h hR hM hMi
  go_enter Tryd.func54, Tryd.ntmps54
  go_wp2_with (first | (go_at_call 41; refine (empty_no g n dn m0 v _ HT.out h1).mono ?_; rintro e w' ⟨rfl, rfl⟩) | (go_at_call 73; refine (HRT.out _).mono ?_; rintro e w' ⟨rfl, rfl⟩))
  clear hmk hMi' c0
  go_loopw [6] (fun z wr => ∃ k : Nat, k ≤ n ∧ z = .int .i64 (k + 1 : Nat) ∧ Hid (wr.ownsRow w.heap.size 22 1 (.slice (some ⟨w.heap.size, 0, none⟩) n n) n (uv (wsl n k))) ∧ Hid (Below w.heap.size w wr)) (fun z _ => n + 1 - (intOf z).toNat)
  case atStart =>
    refine ⟨0, by omega, rfl, ?_, (Below.refl _ _).alloc (Nat.le_refl _) _⟩
    show World.ownsRow _ _ _ _ _ _ _
    rw [wsl_zero]
    have := own_lit (w := w) (base := w.heap.size) (g := w.heap.size) (n := n) (e := 22) (Array.replicate n (.int .u32 0)) rfl (Nat.le_refl _) (by simp) (by unfold maxLen; omega)
    simpa [uv] using this
  case round =>
    obtain ⟨k, hk, rfl, hown, hbl⟩ := hrel
    have hT := HT.out.below hbl.out hlt
    obtain ⟨c0, _, _, _, _⟩ := hT.cells
    clear hT
    rw [show ((k + 1 : Nat) : Int) = (k : Int) + 1 by push_cast; rfl]
    by_cases hlk : k < n
    · obtain ⟨b1, b2, b3, _, _, _, _⟩ := wt_bound n (k + 1) h1 h2 (by omega) (by omega)
      have hid := Lib.hid (fun w => ideal_any n (k + 1) w h1 h2 (by omega) (by omega))
      obtain ⟨I, hI⟩ : ∃ I, ideal n (k + 1) = I := ⟨_, rfl⟩
      rw [hI] at hid b3
      have hfz := hown.out.frozenAt k
      have hcs := (hown.out.cellAt k (by omega)).trans (uv_get _ k (by rw [wsl_length]; exact hlk))
      have hst := Lib.hid ((hown.out.stored k (.int .u32 (wt n (k + 1) : Nat))).1)
      have hset := Lib.hid (uv_set (wsl n k) k (wt n (k + 1)))
      have hids := Lib.hid (wsl_set n k hlk)
      generalize (wsl n k).getD k 0 = u at *
      have hle : (k : Int) + 1 ≤ (n : Int) := by omega
      have hI' := Lib.hid hI
      clear hI
      rcases Nat.lt_trichotomy (k + 1) M with hc | hc | hc
      · obtain ⟨P, hP⟩ : ∃ P, (k + 1) * n = P := ⟨_, rfl⟩
        have hP1 : 1 ≤ P := by rw [← hP]; exact Nat.mul_pos (by omega) (by omega)
        have hP2 : P ≤ 6400 := by
          have := Nat.mul_le_mul (show k + 1 ≤ 80 by omega) h2
          omega
        have hPi : ((k : Int) + 1) * (n : Int) = (P : Int) := by rw [← hP]; push_cast; rfl
        obtain ⟨Q, hQ⟩ : ∃ Q, R * 262144 / P = Q := ⟨_, rfl⟩
        have hQi : (R : Int) * 262144 / (P : Int) = (Q : Int) := by rw [← hQ, Int.natCast_ediv, Int.natCast_mul]; rfl
        have hQ2 : Q ≤ 2097152 := by
          rw [← hQ]
          exact Nat.le_trans (Nat.div_le_self _ _) (by omega)
        have hW := wt_lt n (k + 1) R M P Q HR.out HM.out hP hQ hc
        rw [hI'.out] at hW
        have HW := Lib.hid hW
        have hci : (k : Int) + 1 < (M : Int) := by omega
        have hP0 : ¬ (P : Int) = 0 := by omega
        have hWb : (I : Int) + (Q : Int) ≤ 4294967295 := by omega
        clear hP hQ hW hc b1 b2
        go_wp2_with (go_at_call 74; refine (hid.out _).mono ?_; rintro e w' ⟨rfl, rfl⟩)
        go_roundw
        case rel => exact ⟨k + 1, by omega, by go_num, by show World.ownsRow _ _ _ _ _ _ _; rw [← hids.out, ← hset.out]; have := hst.out; rw [HW.out] at this ⊢; exact this, hbl.out.setCell (Nat.le_refl _) _⟩
        case measure => simp [intOf]; omega
      · obtain ⟨Q, hQ⟩ : ∃ Q, R * 524288 / n = Q := ⟨_, rfl⟩
        have hQi : (R : Int) * 524288 / (n : Int) = (Q : Int) := by rw [← hQ, Int.natCast_ediv, Int.natCast_mul]; rfl
        have hQ2 : Q ≤ 4194304 := by
          rw [← hQ]
          exact Nat.le_trans (Nat.div_le_self _ _) (by omega)
        have hW := wt_eq n (k + 1) R M Q HR.out HM.out hQ hc
        rw [hI'.out] at hW
        have HW := Lib.hid hW
        have hci : ¬ (k : Int) + 1 < (M : Int) := by omega
        have hci2 : (((k : Int) + 1) == (M : Int)) = true := by simp; omega
        have hn0 : ¬ (n : Int) = 0 := by omega
        have hWb : (I : Int) + (Q : Int) ≤ 4294967295 := by omega
        clear hQ hW hc b1 b2
        go_wp2_with (go_at_call 74; refine (hid.out _).mono ?_; rintro e w' ⟨rfl, rfl⟩)
        go_roundw
        case rel => exact ⟨k + 1, by omega, by go_num, by show World.ownsRow _ _ _ _ _ _ _; rw [← hids.out, ← hset.out]; have := hst.out; rw [HW.out] at this ⊢; exact this, hbl.out.setCell (Nat.le_refl _) _⟩
        case measure => simp [intOf]; omega
      · have hW := wt_gt n (k + 1) R M HR.out HM.out hc
        rw [hI'.out] at hW
        have HW := Lib.hid hW
        have hci : ¬ (k : Int) + 1 < (M : Int) := by omega
        have hci2 : (((k : Int) + 1) == (M : Int)) = false := by simp; omega
        have hWb : (I : Int) ≤ 4294967295 := by omega
        clear hW hc b1 b2
        go_wp2_with (go_at_call 74; refine (hid.out _).mono ?_; rintro e w' ⟨rfl, rfl⟩)
        go_roundw
        case rel => exact ⟨k + 1, by omega, by go_num, by show World.ownsRow _ _ _ _ _ _ _; rw [← hids.out, ← hset.out]; have := hst.out; rw [HW.out] at this ⊢; exact this, hbl.out.setCell (Nat.le_refl _) _⟩
        case measure => simp [intOf]; omega
    · obtain rfl : n = k := by omega
      have hle : ¬ (n : Int) + 1 ≤ (n : Int) := by omega
      have hfin := hown.out
      rw [wsl_all] at hfin
      have HF := Lib.hid hfin
      clear hfin
      go_wp2_with fail
      go_ret
      exact ⟨_, n, rfl, HF.out, hbl⟩
end Go.Proofs.YtlpmammagebkfaaDoor
