/- A store is opened: by contract. -/
import Derived.Test.YtoblapnnpjgpnaaGreatDoorStoQ
import Derived.Test.YtoblapnnpjgpnaaGreatDoorDcMathQ
namespace Go.Proofs.YtoblapnnpjgpnaaGreatDoor.Sto
open Go.RowKit
open VecM RdM Vc Sp Pc El Cd Dc
/-- a record more is taken -/
def takeS (s K P : Nat) (r : Mx × Nat) (p : Nat × List UInt8) : Mx × Nat := ((addMx (K + P) r.1 (spX s K P p.1) p.2).1, r.2 + if (addMx (K + P) r.1 (spX s K P p.1) p.2).2 then 1 else 0)
theorem takeS_inv {s K P Z : Nat} (hn : K + P ≤ 256) : ∀ (l : List (Nat × List UInt8)) (r : Mx × Nat), (∀ p ∈ l, p.2.length = Z) → Inv (K + P) Z r.1 → Inv (K + P) Z (l.foldl (takeS s K P) r).1
  | [], _, _, h => h
  | p :: l, _, hl, h => takeS_inv hn l _ (fun q hq => hl q (List.mem_cons_of_mem _ hq)) (addMx_inv h hn (spX_lt (s := s) (K := K) (P := P) (id := p.1)) (hl p (List.mem_cons_self ..)))
theorem takeS_le {s K P : Nat} : ∀ (l : List (Nat × List UInt8)) (r : Mx × Nat), (l.foldl (takeS s K P) r).2 ≤ r.2 + l.length
  | [], r => by simp
  | p :: l, r => by
    have := takeS_le (s := s) (K := K) (P := P) l (takeS s K P r p)
    have h2 : (takeS s K P r p).2 ≤ r.2 + 1 := by unfold takeS; dsimp only; split <;> omega
    simp only [List.foldl_cons, List.length_cons]
    omega
theorem takeS_step {s K P : Nat} (l : List (Nat × List UInt8)) (k : Nat) (hk : k < l.length) (r : Mx × Nat) : (l.take (k + 1)).foldl (takeS s K P) r = takeS s K P ((l.take k).foldl (takeS s K P) r) l[k] := by
  rw [List.take_succ_eq_append_getElem hk, List.foldl_append]; rfl
theorem num4_lt (l : List UInt8) (h : l.length ≤ 4) : CrcM.number l < 4294967296 := by
  match l, h with
  | [], _ => decide
  | [a], _ => have := CrcM.b_lt a; simp only [CrcM.number, List.foldl_cons, List.foldl_nil]; omega
  | [a, b], _ => have := CrcM.b_lt a; have := CrcM.b_lt b; simp only [CrcM.number, List.foldl_cons, List.foldl_nil]; omega
  | [a, b, c], _ => have := CrcM.b_lt a; have := CrcM.b_lt b; have := CrcM.b_lt c; simp only [CrcM.number, List.foldl_cons, List.foldl_nil]; omega
  | [a, b, c, d], _ => have := CrcM.b_lt a; have := CrcM.b_lt b; have := CrcM.b_lt c; have := CrcM.b_lt d; simp only [CrcM.number, List.foldl_cons, List.foldl_nil]; omega
  | _ :: _ :: _ :: _ :: _ :: _, h => simp at h
theorem opW_id (f : Fl) (gen size : Nat) : ∀ k, ∀ p ∈ (opW f gen size k).L, p.1 < 4294967296
  | 0, p, h => by cases h
  | k + 1, p, h => by
    cases hc : cntB f gen size k with
    | false => rw [opW_no hc] at h; exact opW_id f gen size k p h
    | true =>
      rw [opW_yes hc] at h
      rcases List.mem_append.1 h with h | h
      · exact opW_id f gen size k p h
      · have key : ∀ m, ∀ p ∈ recsUp (opW f gen size k).gen (opW f gen size k).wide (secB f k) m, p.1 < 4294967296 := by
          intro m
          induction m with
          | zero => intro p h; cases h
          | succ m ih =>
            intro p h
            rcases List.mem_append.1 h with h | h
            · exact ih p h
            · split at h
              · obtain rfl := List.mem_singleton.1 h
                exact num4_lt _ (by rw [List.length_take]; omega)
              · cases h
        exact key _ p h
/-- what Open finds -/
def openQ (gen s K P Z len : Nat) (f : Fl) : StD := ⟨s, K, P, Z, len, opW f gen Z 8, f, ((opW f gen Z 8).L.foldl (takeS s K P) (matR s K P Z P, 0)).1, ((opW f gen Z 8).L.foldl (takeS s K P) (matR s K P Z P, 0)).2⟩
def manV (s v : Nat) (l z p : Int) (A : Option Addr) (n c : Nat) : Value := .agg #[.int .u32 (s : Int), .int .u32 (v : Int), .int .i64 l, .int .i64 z, .int .i64 p, .slice A n c]
def OpenSt (gf : Nat) (q : StD) (w : World) (e : Ending) (w' : World) : Prop :=
  ∃ gs, e = .returned (.tuple #[.pointer (some ⟨gs, 0, none⟩), .int .i64 0]) ∧ Hid (IsSto gf gs q w' (fun b => b = gf ∨ (w.heap.size ≤ b ∧ b < w'.heap.size))) ∧ Hid (Below w.heap.size w w')
theorem isSto_mk {gf gs gw gd s K P Z len t : Nat} {x : Wh} {f : Fl} {M : Mx} {W : World} {F P' Fd : Nat → Prop} (h1 : F gs) (h2 : F gf) (h3 : gs ≠ gf)
    (h4 : W.heap[gs]? = some (.cells #[.int .i64 (Z : Int), .int .i64 (len : Int), .pointer (some ⟨gw, 0, none⟩), .pointer (some ⟨gd, 0, none⟩)] 62 (0, 0))) (h5 : WhAt P' gw gf x W) (h6 : FlAt W gf f) (h7 : IsDec W Fd gd s K P Z M t)
    (h8 : ∀ b, P' b → F b ∧ b ≠ gs ∧ ¬ Fd b ∧ b < W.heap.size) (h9 : ∀ b, Fd b → F b ∧ b ≠ gs ∧ b ≠ gf ∧ b < W.heap.size) : IsSto gf gs ⟨s, K, P, Z, len, x, f, M, t⟩ W F :=
  ⟨h1, h2, h3, gw, gd, P', Fd, h4, h5, h6, h7, h8, h9⟩
/-- while the records are taken -/
structure LI (w3 w4 w5 : World) (gd s K P Z : Nat) (r : Mx × Nat) (W : World) : Prop where
  d : IsDec W (fun b => (w3.heap.size ≤ b ∧ b < w4.heap.size) ∨ (w5.heap.size ≤ b ∧ b < W.heap.size)) gd s K P Z r.1 r.2
  f : Fr w5 W (fun b => w3.heap.size ≤ b ∧ b < w4.heap.size)
theorem count_yes {len Z P K : Nat} (hK : BlkM.count (len : Int) (Z : Int) = K) (hK2 : 1 ≤ K ∧ K ≤ 64) (hP : P ≤ 16) (hZ : 1 ≤ Z ∧ Z ≤ 16) : ofB (len : Int) (Z : Int) (P : Int) = true := by
  unfold ofB mayB
  rw [hK]
  simp
  omega
set_option maxRecDepth 100000 in
set_option maxHeartbeats 6400000 in
theorem opens_any (gf gen s v len Z P K n c : Nat) (A : Option Addr) (f : Fl) (w : World) (hf : FlAt w gf f) (hd : f.down = false) (hs : s < 4294967296) (hgen : gen < 4294967296) (hK : BlkM.count (len : Int) (Z : Int) = K) (hK2 : 1 ≤ K ∧ K ≤ 64) (hP : P ≤ 16) (hZ : 1 ≤ Z ∧ Z ≤ 16) (hT : DTab w) :
    Calls Tryz.prog 7 #[.pointer (some ⟨gf, 0, none⟩), manV s v len Z P A n c, .int .u32 (gen : Int)] w (OpenSt gf (openQ gen s K P Z len f) w) := by
  obtain ⟨Q, hQ⟩ : ∃ Q, openQ gen s K P Z len f = Q := ⟨_, rfl⟩
  rw [hQ]
  have HQ : Hid (Q = ⟨s, K, P, Z, len, opW f gen Z 8, f, ((opW f gen Z 8).L.foldl (takeS s K P) (matR s K P Z P, 0)).1, ((opW f gen Z 8).L.foldl (takeS s K P) (matR s K P Z P, 0)).2⟩) := Lib.hid hQ.symm
  clear hQ
  have hof := count_yes hK hK2 hP hZ
  have HOF := Lib.hid (fun W => of_all s v (len : Int) (Z : Int) (P : Int) A n c W)
  have HOF2 := Lib.hid hof
  have HKK := Lib.hid hK
  have hb0 : Below w.heap.size w (w.alloc (.cells #[.int .u32 (s : Int), .int .u32 (v : Int), .int .i64 (len : Int), .int .i64 (Z : Int), .int .i64 (P : Int), .slice A n c] 33)) := (Below.refl _ _).alloc (Nat.le_refl _) _
  have HX0 := Lib.hid (heap_alloc_new w (.cells #[.int .u32 (s : Int), .int .u32 (v : Int), .int .i64 (len : Int), .int .i64 (Z : Int), .int .i64 (P : Int), .slice A n c] 33))
  have HL0 : Hid (w.heap.size < (w.alloc (.cells #[.int .u32 (s : Int), .int .u32 (v : Int), .int .i64 (len : Int), .int .i64 (Z : Int), .int .i64 (P : Int), .slice A n c] 33)).heap.size) := Lib.hid (by simp)
  have HB0 := Lib.hid hb0
  have HF := Lib.hid hf
  have HD := Lib.hid hd
  have HT := Lib.hid hT
  have HS := Lib.hid hs
  have HG := Lib.hid hgen
  have HK2 := Lib.hid hK2
  have HPP := Lib.hid hP
  have HZ := Lib.hid hZ
  unfold manV
  clear hof hb0 hf hd hT hs hgen hK hK2 hP hZ
  go_enter Tryz.func7, Tryz.ntmps7
  go_upto_region 1 with fail
  generalize (w.alloc (.cells #[.int .u32 (s : Int), .int .u32 (v : Int), .int .i64 (len : Int), .int .i64 (Z : Int), .int .i64 (P : Int), .slice A n c] 33)) = wb at *
  obtain ⟨c0, c1, c2, c3, c4, c5⟩ := bx6 HX0.out
  go_wp2_with fail
  refine (HOF.out wb).mono ?_
  rintro e w1 ⟨sq, Kq, Pq, Zq, rfl, hb1, hval⟩
  obtain ⟨rfl, rfl, rfl, rfl⟩ := hval HOF2.out
  rw [HOF2.out, HKK.out]
  have HB1 := Lib.hid (HB0.out.trans (hb1.mono HB0.out.size))
  have HX1 : Hid (w1.heap[w.heap.size]? = _) := Lib.hid ((hb1.block w.heap.size HL0.out).trans HX0.out)
  have HL1 : Hid (w.heap.size < w1.heap.size) := Lib.hid (Nat.lt_of_lt_of_le HL0.out hb1.size)
  clear hb1 HOF HOF2 HKK HX0 HL0 HB0 c0 c1 c2 c3 c4 c5 hval
  have HX2 := Lib.hid (heap_alloc_new w1 (.cells #[.int .u32 (s : Int), .int .i64 (K : Int), .int .i64 (P : Int), .int .i64 (Z : Int)] 44))
  have HB2 : Hid (Below w1.heap.size w1 (w1.alloc (.cells #[.int .u32 (s : Int), .int .i64 (K : Int), .int .i64 (P : Int), .int .i64 (Z : Int)] 44))) := Lib.hid ((Below.refl _ _).alloc (Nat.le_refl _) _)
  have HL2 : Hid (w1.heap.size < (w1.alloc (.cells #[.int .u32 (s : Int), .int .i64 (K : Int), .int .i64 (P : Int), .int .i64 (Z : Int)] 44)).heap.size) := Lib.hid (by simp)
  go_upto_region 4 with fail
  generalize (w1.alloc (.cells #[.int .u32 (s : Int), .int .i64 (K : Int), .int .i64 (P : Int), .int .i64 (Z : Int)] 44)) = w2 at *
  have HX12 : Hid (w2.heap[w.heap.size]? = _) := Lib.hid ((HB2.out.block w.heap.size HL1.out).trans HX1.out)
  have HB02 : Hid (Below w.heap.size w w2) := Lib.hid (HB1.out.trans (HB2.out.mono HB1.out.size))
  have HS12 : Hid (w.heap.size < w1.heap.size ∧ w1.heap.size < w2.heap.size) := Lib.hid ⟨HL1.out, HL2.out⟩
  clear HX1 HL1 HL2 HB1 HB2
  obtain ⟨⟨p0, p1, p2, p3⟩, -⟩ := bx4 HX2.out
  have HOP := Lib.hid (open_any gf gen Z f w2 (HF.out.below HB02.out) HD.out HZ.out.1 HZ.out.2)
  have HLN := Lib.hid (opW_reclen f gen Z HZ.out.1 HZ.out.2 8 (by omega))
  have HLM := Lib.hid (opW_len f gen Z HZ.out.1 HZ.out.2 8)
  have HLI := Lib.hid (opW_id f gen Z 8)
  generalize opW f gen Z 8 = x at *
  obtain ⟨L, hL⟩ : ∃ L, x.L = L := ⟨_, rfl⟩
  have HXL := Lib.hid hL
  rw [hL] at HLN HLM HLI HQ
  clear hL
  go_wp2_with fail
  refine HOP.out.mono ?_
  rintro e w3 ⟨gw, rfl, -, hw3, hb3⟩
  have HW3 := Lib.hid hw3.out
  have HB3 := Lib.hid hb3.out
  clear hw3 hb3 HOP p0 p1 p2 p3
  obtain ⟨⟨p0, p1, p2, p3⟩, -⟩ := bx4 ((HB3.out.block w1.heap.size HS12.out.2).trans HX2.out)
  have HB03 : Hid (Below w.heap.size w w3) := Lib.hid (HB02.out.trans (HB3.out.mono HB02.out.size))
  have HND := Lib.hid (newD s K P Z w3 HS.out HK2.out HPP.out HZ.out (HT.out.grow HB03.out))
  go_wp2_with fail
  refine HND.out.mono ?_
  rintro e w4 ⟨gd, rfl, hd4, hi4, hb4⟩
  have HD4 := Lib.hid hd4.out
  have HI4 := Lib.hid hi4.out
  have HB4 := Lib.hid hb4.out
  clear hd4 hi4 hb4 HND p0 p1 p2 p3
  have HRC := Lib.hid (recs_any _ gw gf x w4 (HW3.out.below HB4.out) (by rw [HXL.out]; intro p hp; have := HLN.out p hp; have := HZ.out; omega) (by rw [HXL.out]; have := HLM.out; omega))
  go_wp2_with fail
  refine HRC.out.mono ?_
  rintro e w5 ⟨A5, n5, c5, es5, rfl, hr5, hm5, hb5⟩
  have HR5 := Lib.hid hr5.out
  have HM5 : Hid (es5.map RRow.pair = L) := Lib.hid (hm5.out.trans HXL.out)
  have HB5 := Lib.hid hb5.out
  have HN5 : Hid (n5 = L.length) := Lib.hid (by rw [← HM5.out, List.length_map]; exact HR5.out.2.2.1.symm)
  clear hr5 hm5 hb5 HRC
  have HSS : Hid (w.heap.size < w1.heap.size ∧ w1.heap.size < w2.heap.size ∧ w2.heap.size ≤ w3.heap.size ∧ w3.heap.size ≤ w4.heap.size ∧ w4.heap.size ≤ w5.heap.size) := Lib.hid ⟨HS12.out.1, HS12.out.2, HB3.out.size, HB4.out.size, HB5.out.size⟩
  have HB05 : Hid (Below w.heap.size w w5) := Lib.hid ((HB03.out.trans (HB4.out.mono HB03.out.size)).trans (HB5.out.mono (Nat.le_trans HB03.out.size HB4.out.size)))
  have hn144 : n5 ≤ 144 := by rw [HN5.out]; exact HLM.out
  have HLI0 : Hid (LI w3 w4 w5 gd s K P Z ((L.take 0).foldl (takeS s K P) (matR s K P Z P, 0)) w5) := Lib.hid ⟨(HD4.out.below HB5.out).more (fun b hb => .inl hb), Fr.refl _ _⟩
  go_wp2_with fail
  go_loopw [38] (fun i W => ∃ k : Nat, k ≤ n5 ∧ i = .int .i64 k ∧ Hid (LI w3 w4 w5 gd s K P Z ((L.take k).foldl (takeS s K P) (matR s K P Z P, 0)) W)) (fun i _ => n5 - (intOf i).toNat)
  case atStart => exact ⟨0, by omega, rfl, HLI0⟩
  case round =>
    clear HLI0
    obtain ⟨k, hk, rfl, hli⟩ := hrel
    have HBW : Hid (Below w.heap.size w wr) := Lib.hid (HB05.out.trans ((hli.out.f.below (B := w3.heap.size) (fun b hb => hb.1) (by have := HSS.out; omega)).mono HB03.out.size))
    by_cases hlt : k < n5
    · have hki : (k : Int) < (n5 : Int) := by omega
      have hkn : k + 1 ≤ n5 := hlt
      have hrw := HR5.out.keep (fun b hb hl => hli.out.f.block b hl (fun e => by have := e.2; have : w4.heap.size ≤ b := hb; omega)) hli.out.f.size
      obtain ⟨ga, rfl, hk1, c0, c1, hrc⟩ := hrw.at_ hlt
      have hkL : k < L.length := by rw [← HN5.out]; exact hlt
      have hpair : L[k] = es5[k].pair := by
        have h1 : (es5.map RRow.pair)[k]? = some es5[k].pair := by rw [List.getElem?_map, List.getElem?_eq_getElem hk1]; rfl
        rw [HM5.out, List.getElem?_eq_getElem hkL] at h1
        exact Option.some.inj h1
      have hlen := HLN.out L[k] (List.getElem_mem hkL)
      have hidl := HLI.out L[k] (List.getElem_mem hkL)
      have hstep := takeS_step (s := s) (K := K) (P := P) L k hkL (matR s K P Z P, 0)
      rw [hpair] at hlen hidl hstep
      generalize es5[k] = r at *
      obtain ⟨rid, rA, rn, rc, rd⟩ := r
      dsimp only [RRow.pair] at c0 c1 hlen hidl hstep
      obtain ⟨gr, ro, hrA, _, hgr, _, hrow⟩ := hrc
      dsimp only at hrA hrow
      obtain rfl : Z = rn := by rw [← hrow.blen]; exact hlen.symm
      have hinv := takeS_inv (s := s) (Z := Z) (by have := HK2.out; have := HPP.out; omega) (L.take k) (matR s K P Z P, 0) (fun p hp => HLN.out p (List.mem_of_mem_take hp)) HI4.out
      have htle := takeS_le (s := s) (K := K) (P := P) (L.take k) (matR s K P Z P, 0)
      obtain ⟨⟨rM, rt⟩, hR⟩ : ∃ R, (L.take k).foldl (takeS s K P) (matR s K P Z P, 0) = R := ⟨_, rfl⟩
      rw [hR] at hli hstep hinv htle
      dsimp only at hinv htle
      have hba : Below wr.heap.size wr (wr.alloc (.cells #[.int .u32 (rid : Int), .slice rA Z rc] 70)) := (Below.refl _ _).alloc (Nat.le_refl _) _
      have HBA := Lib.hid hba
      have HTK := Lib.hid (take_any _ gd s K P Z rt rid rc rA rd rM (wr.alloc (.cells #[.int .u32 (rid : Int), .slice rA Z rc] 70)) (hli.out.d.below hba) hinv HS.out hidl HK2.out HPP.out HZ.out hlen ((hrow.below hba).more hba.size) (HT.out.grow (HBW.out.trans (hba.mono HBW.out.size))) (by rw [List.length_take] at htle; have := HLM.out; omega))
      have HLT := Lib.hid hli
      have HST := Lib.hid hstep
      have HK1 := Lib.hid hk1
      clear hlen hidl hstep hrA hgr hrow hinv htle hR hba hk1 hpair hli hkL
      go_wp2_with fail
      refine HTK.out.mono ?_
      rintro e w7 ⟨rfl, hd7, hf7⟩
      generalize (wr.alloc (.cells #[.int .u32 (rid : Int), .slice rA Z rc] 70)) = W0 at *
      have HLI7 : Hid (LI w3 w4 w5 gd s K P Z ((L.take (k + 1)).foldl (takeS s K P) (matR s K P Z P, 0)) w7) := Lib.hid (by
        rw [HST.out]
        have q1 := HBA.out.size
        have q2 := hf7.out.size
        have q3 := HLT.out.out.f.size
        refine ⟨hd7.out.more ?_, ?_⟩
        · rintro b ((hb | hb) | hb)
          · exact .inl hb
          · exact .inr ⟨hb.1, by have := hb.2; omega⟩
          · exact .inr ⟨by have := hb.1; omega, hb.2⟩
        · refine (HLT.out.out.f.trans (Fr.of_below (F := fun b => w3.heap.size ≤ b ∧ b < w4.heap.size) HBA.out) (fun _ _ h => h)).trans hf7.out ?_
          intro b hb h
          rcases h with h | h
          · exact h
          · have h : w5.heap.size ≤ b ∧ b < wr.heap.size := h
            omega)
      clear HTK hd7 hf7 HLT HST HBA c0 c1
      go_wp2_with fail
      go_roundw
      case rel => exact ⟨k + 1, hkn, by go_num, HLI7⟩
      case measure => simp [intOf]; omega
    · obtain rfl : n5 = k := by omega
      have htk : L.take n5 = L := List.take_of_length_le (by rw [HN5.out]; exact Nat.le_refl _)
      rw [htk] at hli
      have hpx : wr.heap[w1.heap.size]? = w2.heap[w1.heap.size]? := by
        have q := HSS.out
        rw [hli.out.f.block w1.heap.size (by omega) (fun e => by omega), HB5.out.block w1.heap.size (by omega), HB4.out.block w1.heap.size (by omega), HB3.out.block w1.heap.size (by omega)]
      have hmx : wr.heap[w.heap.size]? = w2.heap[w.heap.size]? := by
        have q := HSS.out
        rw [hli.out.f.block w.heap.size (by omega) (fun e => by omega), HB5.out.block w.heap.size (by omega), HB4.out.block w.heap.size (by omega), HB3.out.block w.heap.size (by omega)]
      obtain ⟨⟨p0, p1, p2, p3⟩, -⟩ := bx4 (hpx.trans HX2.out)
      obtain ⟨c0, c1, c2, c3, c4, c5⟩ := bx6 (hmx.trans HX12.out)
      have HWR : Hid (WhAt (fun b => w2.heap.size ≤ b ∧ b < w3.heap.size) gw gf x wr) := Lib.hid ((HW3.out.below HB4.out |>.below HB5.out).keep (fun b hb hl => hli.out.f.block b hl (fun e => by omega)) hli.out.f.size)
      have HFW : Hid (FlAt wr gf f) := Lib.hid (HF.out.below HBW.out)
      have HDR := Lib.hid hli.out.d
      have HSW := Lib.hid hli.out.f.size
      have HGF := Lib.hid HF.out.lt
      clear hli hpx hmx htk
      have hbe : Below wr.heap.size wr (wr.alloc (.cells #[.int .i64 (Z : Int), .int .i64 (len : Int), .pointer (some ⟨gw, 0, none⟩), .pointer (some ⟨gd, 0, none⟩)] 62)) := (Below.refl _ _).alloc (Nat.le_refl _) _
      have HBE := Lib.hid hbe
      have HXE := Lib.hid (heap_alloc_new wr (.cells #[.int .i64 (Z : Int), .int .i64 (len : Int), .pointer (some ⟨gw, 0, none⟩), .pointer (some ⟨gd, 0, none⟩)] 62))
      have HZE : Hid ((wr.alloc (.cells #[.int .i64 (Z : Int), .int .i64 (len : Int), .pointer (some ⟨gw, 0, none⟩), .pointer (some ⟨gd, 0, none⟩)] 62)).heap.size = wr.heap.size + 1) := Lib.hid (by simp)
      clear hbe
      go_wp2_with fail
      go_ret2
      generalize (wr.alloc (.cells #[.int .i64 (Z : Int), .int .i64 (len : Int), .pointer (some ⟨gw, 0, none⟩), .pointer (some ⟨gd, 0, none⟩)] 62)) = WE at *
      refine ⟨wr.heap.size, rfl, Lib.hid ?_, Lib.hid (HBW.out.trans (HBE.out.mono HBW.out.size))⟩
      have q := HSS.out
      have q2 := HSW.out
      have q3 := HGF.out
      have q4 := HZE.out
      have q5 := HBW.out.size
      have hFS : wr.heap.size ≤ wr.heap.size ∧ wr.heap.size < WE.heap.size := ⟨Nat.le_refl _, by omega⟩
      have e1 := HWR.out.below HBE.out
      have e2 := HFW.out.below HBE.out
      have e3 := HDR.out.below HBE.out
      have e4 := HXE.out
      have hgs : wr.heap.size ≠ gf := by omega
      generalize List.foldl (takeS s K P) (matR s K P Z P, 0) L = R at *
      clear HWR HFW HDR HXE HBE
      rw [HQ.out]
      refine isSto_mk (.inr ⟨q5, hFS.2⟩) (.inl rfl) hgs e4 e1 e2 e3 ?_ ?_
      · intro b hb
        have hb : w2.heap.size ≤ b ∧ b < w3.heap.size := hb
        exact ⟨.inr ⟨by omega, by omega⟩, by omega, (fun e => by
          have e : (w3.heap.size ≤ b ∧ b < w4.heap.size) ∨ (w5.heap.size ≤ b ∧ b < wr.heap.size) := e
          omega), by omega⟩
      · intro b hb
        have hb : (w3.heap.size ≤ b ∧ b < w4.heap.size) ∨ (w5.heap.size ≤ b ∧ b < wr.heap.size) := hb
        exact ⟨.inr ⟨by omega, by omega⟩, by omega, by omega, by omega⟩
theorem openQ_ok (gen s K P Z len n : Nat) (f : Fl) (hf : f.Ok (400 * (n : Int))) (hg : gen < 4294967296) (hs : s < 4294967296) (hK : 1 ≤ K ∧ K ≤ 64) (hP : P ≤ 16) (hZ : 1 ≤ Z ∧ Z ≤ 16) : StOk (openQ gen s K P Z len f) n := by
  have hx := XI.opW f gen Z n hg hZ.1 hZ.2
  have hl := opW_len f gen Z hZ.1 hZ.2 8
  have hz := opW_size f gen Z 8
  have hr := opW_reclen f gen Z hZ.1 hZ.2 8 (by omega)
  unfold openQ
  generalize opW f gen Z 8 = x at *
  have hi := takeS_inv (s := s) (K := K) (P := P) (Z := Z) (by omega) x.L (matR s K P Z P, 0) hr (matR_got (by omega) P (Nat.le_refl _)).inv
  have ht := takeS_le (s := s) (K := K) (P := P) x.L (matR s K P Z P, 0)
  exact ⟨hs, hK, hP, hZ, hi, hx, hz, hf, by show (x.L.foldl (takeS s K P) (matR s K P Z P, 0)).2 ≤ _; dsimp only at ht; omega⟩
end Go.Proofs.YtoblapnnpjgpnaaGreatDoor.Sto
