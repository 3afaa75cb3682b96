/- cell.first, parse: by contracts. -/
import Derived.Deep.RegionWith
import Derived.Test.YtoblapnnpjgpnaaGreatDoorZAQ
import Derived.Test.YtoblapnnpjgpnaaGreatDoorZGQ
namespace Go.Proofs.YtoblapnnpjgpnaaGreatDoor
open Go.RowKit
theorem first_num (x0 x1 x2 x3 : UInt8) (t : List UInt8) : CrcM.number ((x0 :: x1 :: x2 :: x3 :: t).take 4) = ((x0.toNat * 256 + x1.toNat) * 256 + x2.toNat) * 256 + x3.toNat := by
  simp [CrcM.number]
/-- what stands in a sector, if it is whole: its number and its bytes -/
def plen (b : List UInt8) : Nat := (b.getD 4 0).toNat * 256 + (b.getD 5 0).toNat
def partOk (b : List UInt8) : Prop := plen b ≤ 245 ∧ b.getD (10 + plen b) 0 = 0 ∧ isRight (b.take (10 + plen b))
def partN (b : List UInt8) : Nat := CrcM.number (b.take 4)
def partD (b : List UInt8) : List UInt8 := (b.take (6 + plen b)).drop 6
theorem partN_lt (b : List UInt8) : partN b < 4294967296 := by
  match b with
  | [] => decide
  | [x0] => have := CrcM.b_lt x0; simp [partN, CrcM.number]; omega
  | [x0, x1] => have := CrcM.b_lt x0; have := CrcM.b_lt x1; simp [partN, CrcM.number]; omega
  | [x0, x1, x2] => have := CrcM.b_lt x0; have := CrcM.b_lt x1; have := CrcM.b_lt x2; simp [partN, CrcM.number]; omega
  | x0 :: x1 :: x2 :: x3 :: t =>
    have := CrcM.b_lt x0; have := CrcM.b_lt x1; have := CrcM.b_lt x2; have := CrcM.b_lt x3
    unfold partN; rw [first_num]; omega
/-- parse's answer: three cells -/
def PartIs (b : List UInt8) (base : Nat) (W : World) (wh : Bool) (num : Nat) (A : Option Addr) (n c : Nat) : Prop :=
  (partOk b ∧ wh = true ∧ num = partN b ∧ n = plen b ∧ n ≤ c ∧ c ≤ 9223372036854775807 ∧ Row W W.heap.size A n (bv (partD b)) ∧ ∀ g o, A = some ⟨g, o, none⟩ → 0 < n → base ≤ g) ∨ (¬ partOk b ∧ wh = false ∧ num = 0 ∧ A = none ∧ n = 0 ∧ c = 0)
theorem results_cell_row {P : Program} {fn : Func} {p : Tmp} {ty : TypeId} (h : fn.results = #[.cell p ty]) (tmps : Array Value) (w : World) (g : Nat) (t : TypeId) (cs : Array Value) (fr : Nat × Nat) (d : TypeDesc)
    (hp : tmps.getD p undef = .pointer (some ⟨g, 0, none⟩)) (hg : w.heap[g]? = some (.cells cs t fr))
    (hu : P.underlying ty = some d) (hd : (match d with | .struct _ | .array _ _ => true | _ => false) = true) (hi : (P.info? ty).map (·.size) = some cs.size) :
    (results fn tmps).run P w = .ok (.agg cs) w := by
  have hp' : tmps[p]?.getD undef = .pointer (some ⟨g, 0, none⟩) := by simpa using hp
  simp [results, h, hp', asAddr, run_loadVar_row w g t ty cs fr d hg hu hd hi]
end Go.Proofs.YtoblapnnpjgpnaaGreatDoor
namespace Go.Proofs.YtoblapnnpjgpnaaGreatDoor
open Go.RowKit
theorem PartIs.below {b : List UInt8} {base : Nat} {W W' : World} {wh : Bool} {num : Nat} {A : Option Addr} {n c : Nat} (h : PartIs b base W wh num A n c) (hb : Below W.heap.size W W') : PartIs b base W' wh num A n c := by
  rcases h with ⟨h1, h2, h3, h4, h5, h6, h7, h8⟩ | h
  · exact .inl ⟨h1, h2, h3, h4, h5, h6, (h7.below hb).more hb.size, h8⟩
  · exact .inr h
theorem PartIs.more {b : List UInt8} {base base' : Nat} {W : World} {wh : Bool} {num : Nat} {A : Option Addr} {n c : Nat} (h : PartIs b base W wh num A n c) (hb : base' ≤ base) : PartIs b base' W wh num A n c := by
  rcases h with ⟨h1, h2, h3, h4, h5, h6, h7, h8⟩ | h
  · exact .inl ⟨h1, h2, h3, h4, h5, h6, h7, fun g o e h0 => Nat.le_trans hb (h8 g o e h0)⟩
  · exact .inr h
/-- a block below the parts' own is written -/
theorem PartIs.grown {b : List UInt8} {base g : Nat} {W W' : World} {wh : Bool} {num : Nat} {A : Option Addr} {n c : Nat} (h : PartIs b base W wh num A n c) (hg : W.grownBy W' (some g)) (hgb : g < base) : PartIs b base W' wh num A n c := by
  rcases h with ⟨h1, h2, h3, h4, h5, h6, h7, h8⟩ | h
  · exact .inl ⟨h1, h2, h3, h4, h5, h6, (h7.apart (fun h0 b o e => by have := h8 b o e h0; omega) hg (Nat.le_refl _)).more hg.size, h8⟩
  · exact .inr h
def pv (wh : Bool) (num : Nat) (A : Option Addr) (n c : Nat) : List Value := [.bool wh, .int .u32 (num : Int), .slice A n c]
end Go.Proofs.YtoblapnnpjgpnaaGreatDoor
namespace Go.Proofs.YtoblapnnpjgpnaaGreatDoor
open Go.RowKit
def hd6 (n len : Nat) : List UInt8 := CrcM.four n ++ [UInt8.ofNat (len / 256), UInt8.ofNat len]
def msg (n : Nat) (b : List UInt8) : List UInt8 := (hd6 n b.length ++ b) ++ CrcM.four (CrcM.sum (hd6 n b.length ++ b))
def msgz (n : Nat) (b : List UInt8) : List UInt8 := msg n b ++ [0]
theorem hd6_length (n len : Nat) : (hd6 n len).length = 6 := by simp [hd6, CrcM.four]
theorem msg_length (n : Nat) (b : List UInt8) : (msg n b).length = b.length + 10 := by simp [msg, hd6, CrcM.four]
theorem msgz_length (n : Nat) (b : List UInt8) : (msgz n b).length = b.length + 11 := by simp [msgz, msg_length]
theorem msg_right (n : Nat) (b : List UInt8) : isRight (msg n b) := CrcM.put_right _
def sl (β : Nat → UInt8) : List UInt8 := (List.range 256).map β
theorem sl_length (β : Nat → UInt8) : (sl β).length = 256 := by simp [sl]
theorem sl_getD (β : Nat → UInt8) (i : Nat) (h : i < 256) : (sl β).getD i 0 = β i := by simp [sl, List.getD, h]
theorem sl_take {β : Nat → UInt8} {m : List UInt8} (h : ∀ i, i < m.length → β i = m.getD i 255) (hm : m.length ≤ 256) : (sl β).take m.length = m := by
  apply List.ext_getElem
  · simp [sl]; omega
  · intro i h1 h2
    simp only [sl, List.getElem_take, List.getElem_map, List.getElem_range]
    rw [h i h2]; simp [List.getD, h2]
theorem sl_split {β : Nat → UInt8} {m : List UInt8} (h : ∀ i, i < m.length → β i = m.getD i 255) (hm : m.length ≤ 256) : ∃ r, sl β = m ++ r :=
  ⟨(sl β).drop m.length, by rw [← sl_take h hm]; simp only [List.length_take, sl_length]; rw [Nat.min_eq_left hm, List.take_append_drop]⟩
/-- a sector that holds b whole, under the number n -/
def SecOk (β : Nat → UInt8) (n : Nat) (b : List UInt8) : Prop := n < 16777216 ∧ b.length ≤ 245 ∧ ∀ i, i < b.length + 11 → β i = (msgz n b).getD i 255
def plenB (β : Nat → UInt8) : Nat := (β 4).toNat * 256 + (β 5).toNat
def Dead (β : Nat → UInt8) : Prop := 245 < plenB β ∨ β (10 + plenB β) ≠ 0
def Hurt (β : Nat → UInt8) : Prop := ∃ n b, n < 16777216 ∧ b.length ≤ 245 ∧ β 0 = 255 ∧ ∀ i, 4 ≤ i → i < b.length + 11 → β i = (msgz n b).getD i 255
theorem plen_sl (β : Nat → UInt8) : plen (sl β) = plenB β := by
  unfold plen plenB; rw [sl_getD β 4 (by omega), sl_getD β 5 (by omega)]
theorem Dead.no {β : Nat → UInt8} (h : Dead β) : ¬ partOk (sl β) := by
  rintro ⟨h1, h2, _⟩
  rw [plen_sl] at h1 h2
  rw [sl_getD β _ (by omega)] at h2
  rcases h with h | h
  · omega
  · exact h h2
theorem msgz_six (n : Nat) (b : List UInt8) : msgz n b = UInt8.ofNat (n / 16777216) :: UInt8.ofNat (n / 65536) :: UInt8.ofNat (n / 256) :: UInt8.ofNat n :: UInt8.ofNat (b.length / 256) :: UInt8.ofNat b.length :: (b ++ (CrcM.four (CrcM.sum (hd6 n b.length ++ b)) ++ [0])) := by
  simp [msgz, msg, hd6, CrcM.four]
theorem len8 (k : Nat) (h : k ≤ 245) : (UInt8.ofNat (k / 256)).toNat * 256 + (UInt8.ofNat k).toNat = k := by
  simp only [UInt8.toNat_ofNat']
  omega
theorem plenB_of {β : Nat → UInt8} {n : Nat} {b : List UInt8} (hb : b.length ≤ 245) (h4 : β 4 = (msgz n b).getD 4 255) (h5 : β 5 = (msgz n b).getD 5 255) : plenB β = b.length := by
  unfold plenB
  rw [h4, h5, msgz_six]
  exact len8 _ hb
theorem SecOk.ok {β : Nat → UInt8} {n : Nat} {b : List UInt8} (h : SecOk β n b) : partOk (sl β) ∧ partN (sl β) = n ∧ partD (sl β) = b ∧ plen (sl β) = b.length := by
  obtain ⟨hn, hb, hi⟩ := h
  have hp : plen (sl β) = b.length := by rw [plen_sl]; exact plenB_of hb (hi 4 (by omega)) (hi 5 (by omega))
  obtain ⟨r, hr⟩ := sl_split (β := β) (m := msgz n b) (by rw [msgz_length]; exact hi) (by rw [msgz_length]; omega)
  have h0 : β (10 + b.length) = 0 := by
    rw [hi _ (by omega)]
    unfold msgz
    simp [List.getD, msg_length, show 10 + b.length = b.length + 10 by omega]
  have hm : sl β = msg n b ++ (0 :: r) := by rw [hr]; simp [msgz]
  refine ⟨⟨by rw [hp]; exact hb, by rw [hp, sl_getD β _ (by omega)]; exact h0, ?_⟩, ?_, ?_, hp⟩
  · rw [hp, hm, List.take_left' (by rw [msg_length]; omega)]
    exact msg_right n b
  · unfold partN
    rw [hm]
    have e : (msg n b ++ 0 :: r).take 4 = CrcM.four n := by simp [msg, hd6, CrcM.four]
    rw [e, CrcM.number_four n (by omega)]
  · unfold partD
    rw [hp, hm]
    have e : msg n b ++ 0 :: r = hd6 n b.length ++ (b ++ (CrcM.four (CrcM.sum (hd6 n b.length ++ b)) ++ 0 :: r)) := by simp [msg]
    rw [e, List.take_append, List.drop_append, List.length_take, hd6_length]
    simp [hd6_length]
theorem four_lt (n : Nat) (h : n < 16777216) : CrcM.four n = [0, UInt8.ofNat (n / 65536), UInt8.ofNat (n / 256), UInt8.ofNat n] := by
  unfold CrcM.four
  rw [show n / 16777216 = 0 by omega]; rfl
theorem Hurt.no {β : Nat → UInt8} (h : Hurt β) : ¬ partOk (sl β) := by
  obtain ⟨n, b, hn, hb, h255, hi⟩ := h
  rintro ⟨_, _, h3⟩
  have hp : plen (sl β) = b.length := by rw [plen_sl]; exact plenB_of hb (hi 4 (by omega) (by omega)) (hi 5 (by omega) (by omega))
  rw [hp] at h3
  -- the bytes as they should be, but for the first four
  obtain ⟨m, hm⟩ : ∃ m, m = [UInt8.ofNat (b.length / 256), UInt8.ofNat b.length] ++ b := ⟨_, rfl⟩
  have hml : m.length = b.length + 2 := by rw [hm]; simp
  have hmsg : msg n b = (CrcM.four n ++ m) ++ CrcM.four (CrcM.sum (CrcM.four n ++ m)) := by unfold msg hd6; rw [hm]; simp
  have hr0 : CrcM.sum (CrcM.four n ++ m) = CrcM.number (CrcM.four (CrcM.sum (CrcM.four n ++ m))) := (CrcM.number_four _ (CrcM.sum_lt _)).symm
  obtain ⟨c, hc⟩ : ∃ c, c = CrcM.four (CrcM.sum (CrcM.four n ++ m)) := ⟨_, rfl⟩
  have hcl : c.length = 4 := by rw [hc]; rfl
  rw [← hc] at hr0 hmsg
  have hL : (sl β).take (10 + b.length) = ([β 0, β 1, β 2, β 3] ++ m) ++ c := by
    have e : (sl β).take (([β 0, β 1, β 2, β 3] ++ m) ++ c).length = ([β 0, β 1, β 2, β 3] ++ m) ++ c := by
      refine sl_take (fun i hil => ?_) (by simp [hml, hcl]; omega)
      match i with
      | 0 => rfl
      | 1 => rfl
      | 2 => rfl
      | 3 => rfl
      | i + 4 =>
        simp only [List.length_append, List.length_cons, List.length_nil, hml, hcl] at hil
        rw [hi (i + 4) (by omega) (by omega)]
        unfold msgz
        rw [hmsg, four_lt n hn]
        simp only [List.cons_append, List.nil_append, List.getD_cons_succ, List.append_assoc]
        have hlt : i < (m ++ c).length := by simp [hml, hcl]; omega
        rw [← List.append_assoc]
        simp only [List.getD, List.getElem?_append_left hlt]
    rw [← e]
    congr 1
    simp [hml, hcl]; omega
  rw [hL] at h3
  have h4 := (CrcM.right_iff _ c hcl).1 h3
  rw [← hr0] at h4
  have h5 := (CrcM.sum_inj [] [β 0, β 1, β 2, β 3] (CrcM.four n) m).1 (by simpa using h4)
  rw [four_lt n hn] at h5
  obtain ⟨h6, _⟩ := CrcM.reg4_diff _ _ _ _ _ _ _ _ _ h5
  rw [h255] at h6
  exact absurd h6 (by decide)
/-- an erasure that is torn behind t bytes -/
def tornE (β : Nat → UInt8) (t : Nat) : Nat → UInt8 := fun i => if i < t then 255 else β i
theorem dead_long {β : Nat → UInt8} (h : β 4 = 255) : Dead β := by
  left; unfold plenB; rw [h]; show 245 < 255 * 256 + _; omega
theorem Dead.torn {β : Nat → UInt8} (h : Dead β) (t : Nat) : Dead (tornE β t) := by
  by_cases ht : t ≤ 4
  · have e : plenB (tornE β t) = plenB β := by
      unfold plenB tornE; rw [if_neg (by omega), if_neg (by omega)]
    unfold Dead
    rw [e]
    have e2 : tornE β t (10 + plenB β) = β (10 + plenB β) := by unfold tornE; rw [if_neg (by omega)]
    rw [e2]; exact h
  · exact dead_long (by unfold tornE; rw [if_pos (by omega)])
theorem Hurt.torn {β : Nat → UInt8} (h : Hurt β) (t : Nat) : Hurt (tornE β t) ∨ Dead (tornE β t) := by
  by_cases ht : t ≤ 4
  · left
    obtain ⟨n, b, hn, hb, h255, hi⟩ := h
    refine ⟨n, b, hn, hb, ?_, fun i h4 hl => ?_⟩
    · unfold tornE; split
      · rfl
      · exact h255
    · unfold tornE; rw [if_neg (by omega)]; exact hi i h4 hl
  · exact .inr (dead_long (by unfold tornE; rw [if_pos (by omega)]))
theorem SecOk.torn {β : Nat → UInt8} {n : Nat} {b : List UInt8} (h : SecOk β n b) (t : Nat) : SecOk (tornE β t) n b ∨ Hurt (tornE β t) ∨ Dead (tornE β t) := by
  by_cases h0 : t = 0
  · left
    subst h0
    have e : tornE β 0 = β := by funext i; unfold tornE; rw [if_neg (by omega)]
    rw [e]; exact h
  · by_cases ht : t ≤ 4
    · right; left
      obtain ⟨hn, hb, hi⟩ := h
      refine ⟨n, b, hn, hb, ?_, fun i h4 hl => ?_⟩
      · unfold tornE; rw [if_pos (by omega)]
      · unfold tornE; rw [if_neg (by omega)]; exact hi i hl
    · exact .inr (.inr (dead_long (by unfold tornE; rw [if_pos (by omega)])))
/-- a program of m over an erased sector that is torn at k -/
def tornP (m : List UInt8) (k : Nat) (tb : UInt8) : Nat → UInt8 := fun i => if i < k then m.getD i 255 else if i = k then m.getD k 0 ||| tb else 255
theorem tornP_any (n : Nat) (b : List UInt8) (k : Nat) (tb : UInt8) (hn : n < 16777216) (hb : b.length ≤ 245) (hk : k < b.length + 11) : SecOk (tornP (msgz n b) k tb) n b ∨ Dead (tornP (msgz n b) k tb) := by
  have hlast : ∀ d, (msgz n b).getD (b.length + 10) d = 0 := fun d => by unfold msgz; simp [List.getD, msg_length]
  by_cases h5 : k ≤ 4
  · right; left
    unfold plenB
    have : tornP (msgz n b) k tb 5 = 255 := by unfold tornP; rw [if_neg (by omega), if_neg (by omega)]
    rw [this]; show 245 < _ + 255; omega
  · by_cases h6 : k = 5
    · right
      unfold Dead
      right
      unfold tornP
      rw [if_neg (by omega), if_neg (by omega)]
      decide
    · have hp : plenB (tornP (msgz n b) k tb) = b.length := plenB_of (n := n) hb (by unfold tornP; rw [if_pos (by omega)]) (by unfold tornP; rw [if_pos (by omega)])
      by_cases hk10 : k = b.length + 10
      · have hm : tornP (msgz n b) k tb (10 + b.length) = tb := by
          unfold tornP
          rw [if_neg (by omega), if_pos (by omega), hk10, hlast]
          apply UInt8.toNat.inj
          simp
        by_cases ht : tb = 0
        · left
          refine ⟨hn, hb, fun i hi => ?_⟩
          by_cases e : i < k
          · unfold tornP; rw [if_pos e]
          · have e2 : i = 10 + b.length := by omega
            subst e2
            rw [hm, ht, show 10 + b.length = b.length + 10 by omega, hlast]
        · right; right
          rw [hp, hm]; exact ht
      · right; right
        rw [hp]
        unfold tornP
        rw [if_neg (by omega), if_neg (by omega)]
        decide
theorem whole_any (n : Nat) (b : List UInt8) (hn : n < 16777216) (hb : b.length ≤ 245) : SecOk (fun i => (msgz n b).getD i 255) n b := ⟨hn, hb, fun _ _ => rfl⟩
end Go.Proofs.YtoblapnnpjgpnaaGreatDoor
namespace Go.Proofs.YtoblapnnpjgpnaaGreatDoor
open Go.RowKit
/-- the bytes of sector s -/
def Fl.sec (f : Fl) (s : Nat) : Nat → UInt8 := fun i => if i < 256 then f.bs (256 * s + i) else 255
theorem sl_sec (f : Fl) (s : Nat) : sl (f.sec s) = f.sub (256 * s) 256 := by
  unfold sl Fl.sub
  apply List.map_congr_left
  intro i hi
  have : i < 256 := by simpa using hi
  unfold Fl.sec
  rw [if_pos this]
/-- cell.put -/
def Fl.putC (f : Fl) (s n : Nat) (b : List UInt8) : Fl × Int := if (f.erase s).2 = 0 then (f.erase s).1.prog (256 * s) (msgz n b) else f.erase s
def others (f f' : Fl) (s : Nat) : Prop := ∀ i, i < 256 * s ∨ 256 * s + 256 ≤ i → f'.bs i = f.bs i
theorem others.sec {f f' : Fl} {s : Nat} (h : others f f' s) (j : Nat) (hj : j ≠ s) : f'.sec j = f.sec j := by
  funext i
  unfold Fl.sec
  split
  · exact h _ (by omega)
  · rfl
theorem putC_cases (f : Fl) (s n : Nat) (b : List UInt8) (hw : f.er s < f.wear) (hb : b.length ≤ 245) :
    (∃ f', f.putC s n b = (f', 0) ∧ f'.sec s = (fun i => (msgz n b).getD i 255) ∧ others f f' s ∧ f'.er = erUp f.er s ∧ f'.wear = f.wear ∧ f'.steps = f.steps + 1 + b.length + 11 ∧ f'.down = f.down ∧ (f.there = false → f'.there = false)) ∨
    (f.there = true ∧ ∃ f', f.putC s n b = (f', 11) ∧ ((∃ t, t ≤ 256 ∧ f'.sec s = tornE (f.sec s) t) ∨ ∃ k tb, k < b.length + 11 ∧ f'.sec s = tornP (msgz n b) k tb) ∧ others f f' s ∧ f'.er = erUp f.er s ∧ f'.wear = f.wear ∧ f'.down = true ∧ f'.there = false) := by
  have hml := msgz_length n b
  rcases erase_cases f s hw with ⟨f1, e1, b1, r1, w1, s1, d1, t1⟩ | ⟨h0, f1, t, ht, e1, b1, r1, w1, d1, t1⟩
  · have ep : f.putC s n b = f1.prog (256 * s) (msgz n b) := by unfold Fl.putC; rw [e1, if_pos rfl]
    have hff : ∀ i, 256 * s ≤ i ∧ i < 256 * s + 256 → f1.bs i = 255 := fun i hi => by rw [b1]; exact if_pos hi
    have hoo : ∀ i, i < 256 * s ∨ 256 * s + 256 ≤ i → f1.bs i = f.bs i := fun i hi => by rw [b1]; exact if_neg (by omega)
    rcases prog_cases (msgz n b) f1 (256 * s) with ⟨f2, e2, b2, k2, s2, d2, t2⟩ | ⟨h0, f2, k, tb, hk, e2, b2, k2, d2, t2⟩
    · left
      refine ⟨f2, ep.trans e2, ?_, ?_, k2.er.trans r1, k2.wear.trans w1, ?_, d2.trans d1, fun h => t2 (t1 h)⟩
      · funext i
        unfold Fl.sec
        by_cases hi : i < 256
        · rw [if_pos hi, b2]
          unfold bsAll
          by_cases hl : i < (msgz n b).length
          · rw [if_pos (by omega), hff _ (by omega), u8_ff, Nat.add_sub_cancel_left]
            simp [List.getD, hl]
          · rw [if_neg (by omega), hff _ (by omega)]
            simp [List.getD, hl]
        · rw [if_neg hi]
          simp [List.getD, show ¬ i < (msgz n b).length by omega]
      · intro i hi
        rw [b2]
        unfold bsAll
        rw [if_neg (by omega)]
        exact hoo i hi
      · rw [s2, s1, hml]; push_cast; omega
    · right
      refine ⟨?_, f2, ep.trans e2, .inr ⟨k, tb, by omega, ?_⟩, ?_, k2.er.trans r1, k2.wear.trans w1, d2, t2⟩
      · cases h : f.there with
        | true => rfl
        | false => rw [t1 h] at h0; cases h0
      · funext i
        unfold Fl.sec tornP
        by_cases hi : i < 256
        · rw [if_pos hi, b2]
          unfold bsTorn
          by_cases hl : i < k
          · rw [if_pos (by omega), if_pos hl, hff _ (by omega), u8_ff, Nat.add_sub_cancel_left]
            simp [List.getD, show i < (msgz n b).length by omega]
          · rw [if_neg (by omega), if_neg hl]
            by_cases he : i = k
            · rw [if_pos (by omega), if_pos he, hff _ (by omega), u8_ff]
            · rw [if_neg (by omega), if_neg he, hff _ (by omega)]
        · rw [if_neg hi, if_neg (by omega), if_neg (by omega)]
      · intro i hi
        rw [b2]
        unfold bsTorn
        rw [if_neg (by omega), if_neg (by omega)]
        exact hoo i hi
  · right
    refine ⟨h0, f1, ?_, .inl ⟨t, ht, ?_⟩, ?_, r1, w1, d1, t1⟩
    · unfold Fl.putC; rw [e1, if_neg (show ¬ (11 : Int) = 0 by decide)]
    · funext i
      unfold Fl.sec tornE
      by_cases hi : i < 256
      · rw [if_pos hi, b1]
        by_cases hl : i < t
        · rw [if_pos hl]; exact if_pos (by omega)
        · rw [if_neg hl]; show (if _ then _ else _) = if _ then _ else _; rw [if_pos hi, if_neg (by omega)]
      · rw [if_neg hi, if_neg (by omega)]; show _ = if _ then _ else _; rw [if_neg hi]
    · intro i hi
      rw [b1]
      exact if_neg (by omega)
end Go.Proofs.YtoblapnnpjgpnaaGreatDoor
namespace Go.Proofs.YtoblapnnpjgpnaaGreatDoor
open Go.RowKit
theorem c6 {W : World} {g : Nat} {a b c d e f : Value} {t : TypeId} (h : W.heap[g]? = some (.cells #[a, b, c, d, e, f] t (0, 0))) : W.cell? ⟨g, 0, none⟩ = some a ∧ W.cell? ⟨g, 1, none⟩ = some b ∧ W.cell? ⟨g, 2, none⟩ = some c ∧ W.cell? ⟨g, 3, none⟩ = some d ∧ W.cell? ⟨g, 4, none⟩ = some e ∧ W.cell? ⟨g, 5, none⟩ = some f := by
  refine ⟨?_, ?_, ?_, ?_, ?_, ?_⟩ <;> (rw [cell_of_row W g _ _ _ (0, 0) h]; rfl)
end Go.Proofs.YtoblapnnpjgpnaaGreatDoor
namespace Go.Proofs.YtoblapnnpjgpnaaGreatDoor
open Go.RowKit
def P0 (f : Fl) : List UInt8 := f.sub 0 256
def P1 (f : Fl) : List UInt8 := f.sub 256 256
/-- sector s is written next, under number N -/
def WrTo (f : Fl) (s N : Nat) : Prop :=
  (¬ partOk (P0 f) ∧ ¬ partOk (P1 f) ∧ s = 0 ∧ N = 1) ∨ (partOk (P1 f) ∧ (¬ partOk (P0 f) ∨ partN (P0 f) < partN (P1 f)) ∧ s = 0 ∧ N = partN (P1 f) + 1) ∨
  (partOk (P0 f) ∧ (¬ partOk (P1 f) ∨ partN (P1 f) ≤ partN (P0 f)) ∧ s = 1 ∧ N = partN (P0 f) + 1)
theorem PartIs.yes {b : List UInt8} {base : Nat} {W : World} {wh : Bool} {num : Nat} {A : Option Addr} {n c : Nat} (h : PartIs b base W wh num A n c) (hb : partOk b) : wh = true ∧ num = partN b ∧ n = plen b ∧ n ≤ c ∧ c ≤ 9223372036854775807 ∧ Row W W.heap.size A n (bv (partD b)) ∧ ∀ g o, A = some ⟨g, o, none⟩ → 0 < n → base ≤ g := by
  rcases h with ⟨_, h⟩ | ⟨h, _⟩
  · exact h
  · exact absurd hb h
theorem PartIs.off {b : List UInt8} {base : Nat} {W : World} {wh : Bool} {num : Nat} {A : Option Addr} {n c : Nat} (h : PartIs b base W wh num A n c) (hb : ¬ partOk b) : wh = false ∧ num = 0 ∧ A = none ∧ n = 0 ∧ c = 0 := by
  rcases h with ⟨h, _⟩ | ⟨_, h⟩
  · exact absurd h hb
  · exact h
theorem PartIs.lt {b : List UInt8} {base : Nat} {W : World} {wh : Bool} {num : Nat} {A : Option Addr} {n c : Nat} (h : PartIs b base W wh num A n c) : num < 4294967296 := by
  rcases h with ⟨_, _, h, _⟩ | ⟨_, _, h, _⟩
  · rw [h]; exact partN_lt b
  · omega
end Go.Proofs.YtoblapnnpjgpnaaGreatDoor
namespace Go.Proofs.YtoblapnnpjgpnaaGreatDoor
open Go.RowKit
/-- part i holds b under the number N, the other part nothing newer -/
def Cur (f : Fl) (i N : Nat) (b : List UInt8) : Prop :=
  i ≤ 1 ∧ SecOk (f.sec i) N b ∧ (Dead (f.sec (1 - i)) ∨ Hurt (f.sec (1 - i)) ∨ ∃ M c, M < N ∧ SecOk (f.sec (1 - i)) M c)
theorem sec_P0 (f : Fl) : sl (f.sec 0) = P0 f := sl_sec f 0
theorem sec_P1 (f : Fl) : sl (f.sec 1) = P1 f := sl_sec f 1
theorem Cur.or {f : Fl} {i N : Nat} {b : List UInt8} (h : Cur f i N b) : ¬ partOk (sl (f.sec (1 - i))) ∨ partN (sl (f.sec (1 - i))) < N := by
  rcases h.2.2 with h | h | ⟨M, c, h1, h2⟩
  · exact .inl h.no
  · exact .inl h.no
  · right; rw [h2.ok.2.1]; exact h1
theorem Cur.wr {f : Fl} {i N : Nat} {b : List UInt8} (h : Cur f i N b) : WrTo f (1 - i) (N + 1) := by
  have ho := h.or
  obtain ⟨h1, h2, _⟩ := h
  obtain ⟨q1, q2, q3, _⟩ := h2.ok
  rcases (show i = 0 ∨ i = 1 by omega) with rfl | rfl
  · rw [sec_P0] at q1 q2 q3
    rw [show 1 - 0 = 1 from rfl, sec_P1] at ho
    exact .inr (.inr ⟨q1, ho.imp id (fun h => by omega), rfl, by rw [q2]⟩)
  · rw [sec_P1] at q1 q2 q3
    rw [show 1 - 1 = 0 from rfl, sec_P0] at ho
    exact .inr (.inl ⟨q1, ho.imp id (fun h => by omega), rfl, by rw [q2]⟩)
/-- both parts are none -/
def Void (f : Fl) : Prop := (Dead (f.sec 0) ∨ Hurt (f.sec 0)) ∧ (Dead (f.sec 1) ∨ Hurt (f.sec 1))
theorem Void.no {f : Fl} (h : Void f) : ¬ partOk (P0 f) ∧ ¬ partOk (P1 f) := by
  rw [← sec_P0, ← sec_P1]
  exact ⟨h.1.elim Dead.no Hurt.no, h.2.elim Dead.no Hurt.no⟩
theorem Void.wr {f : Fl} (h : Void f) : WrTo f 0 1 := .inl ⟨h.no.1, h.no.2, rfl, rfl⟩
theorem sec_congr {f f' : Fl} (s : Nat) (h : f'.bs = f.bs) : f'.sec s = f.sec s := by unfold Fl.sec; rw [h]
theorem Cur.congr {f f' : Fl} {i N : Nat} {b : List UInt8} (h : Cur f i N b) (e : f'.bs = f.bs) : Cur f' i N b := by
  unfold Cur
  rw [sec_congr _ e, sec_congr _ e]; exact h
/-- what a write leaves -/
structure Wrote (f : Fl) (i N : Nat) (b : List UInt8) (s M : Nat) (c : List UInt8) (r : Int) (f' : Fl) : Prop where
  oth : others f f' s
  er : f'.er = erUp f.er s
  wear : f'.wear = f.wear
  yes : r = 0 → Cur f' s M c ∧ f'.down = f.down ∧ f'.steps = f.steps + 1 + c.length + 11 ∧ (f.there = false → f'.there = false)
  no : r ≠ 0 → r = 11 ∧ f.there = true ∧ f'.there = false ∧ f'.down = true ∧ (Cur f' i N b ∨ Cur f' s M c)
theorem Cur.put {f : Fl} {i N : Nat} {b c : List UInt8} (h : Cur f i N b) (hw : f.er (1 - i) < f.wear) (hc : c.length ≤ 245) (hN : N + 1 < 16777216) :
    Wrote f i N b (1 - i) (N + 1) c (f.putC (1 - i) (N + 1) c).2 (f.putC (1 - i) (N + 1) c).1 := by
  obtain ⟨h1, h2, h3⟩ := h
  have hi : 1 - (1 - i) = i := by omega
  have hii : i ≠ 1 - i := by omega
  rcases putC_cases f (1 - i) (N + 1) c hw hc with ⟨f', e, q1, q2, q3, q4, q5, q6, q7⟩ | ⟨q0, f', e, q1, q2, q3, q4, q5, q6⟩
  · rw [e]
    refine ⟨q2, q3, q4, fun _ => ⟨⟨by omega, ?_, ?_⟩, q6, q5, q7⟩, fun h => absurd rfl h⟩
    · rw [q1]; exact whole_any _ _ hN hc
    · rw [hi, q2.sec i hii]; exact .inr (.inr ⟨N, b, by omega, h2⟩)
  · rw [e]
    refine ⟨q2, q3, q4, (fun h => absurd h (show ¬ (11 : Int) = 0 by decide)), fun _ => ⟨rfl, q0, q6, q5, ?_⟩⟩
    have h2' : SecOk (f'.sec i) N b := by rw [q2.sec i hii]; exact h2
    rcases q1 with ⟨t, _, q1⟩ | ⟨k, tb, hk, q1⟩
    · left
      refine ⟨h1, h2', ?_⟩
      rw [q1]
      rcases h3 with h3 | h3 | ⟨M, d, h3, h4⟩
      · exact .inl (h3.torn t)
      · rcases h3.torn t with h | h
        · exact .inr (.inl h)
        · exact .inl h
      · rcases h4.torn t with h | h | h
        · exact .inr (.inr ⟨M, d, h3, h⟩)
        · exact .inr (.inl h)
        · exact .inl h
    · rcases tornP_any (N + 1) c k tb hN hc hk with h | h
      · right
        refine ⟨by omega, by rw [q1]; exact h, ?_⟩
        rw [hi]
        exact .inr (.inr ⟨N, b, by omega, h2'⟩)
      · left
        exact ⟨h1, h2', by rw [q1]; exact .inl h⟩
theorem Void.put {f : Fl} {c : List UInt8} (h : Void f) (hw : f.er 0 < f.wear) (hc : c.length ≤ 245) (ht : f.there = false) :
    Wrote f 0 0 [] 0 1 c (f.putC 0 1 c).2 (f.putC 0 1 c).1 ∧ (f.putC 0 1 c).2 = 0 := by
  rcases putC_cases f 0 1 c hw hc with ⟨f', e, q1, q2, q3, q4, q5, q6, q7⟩ | ⟨q0, _⟩
  · rw [e]
    refine ⟨⟨q2, q3, q4, fun _ => ⟨⟨by omega, ?_, ?_⟩, q6, q5, q7⟩, fun h => absurd rfl h⟩, rfl⟩
    · rw [q1]; exact whole_any _ _ (by omega) hc
    · rw [q2.sec 1 (by omega)]
      exact h.2.elim .inl (fun h => .inr (.inl h))
  · rw [ht] at q0; cases q0
theorem Fl.Ok.putC {f : Fl} {k : Int} (h : f.Ok k) (s n : Nat) (b : List UInt8) (hb : b.length ≤ 245) : (f.putC s n b).1.Ok (k + 300) := by
  unfold Fl.putC
  split
  · exact ((h.erase s).prog (msgz n b) (256 * s)).more (by rw [msgz_length]; omega)
  · exact (h.erase s).more (by omega)
section
variable {g B m cap i N : Nat} {A : Option Addr} {b c : List UInt8} {f : Fl} {w : World} {k : Int}
end
theorem new_ok (x : Int) (h : x ≤ 10000) : ((flNew x).fill 0 3584).Ok 0 := ⟨Int.le_refl 0, Int.le_refl 0, by show _ ≤ (0 : Int) ∧ (0 : Int) ≤ _; decide, fun s => Int.le_refl 0, h⟩
end Go.Proofs.YtoblapnnpjgpnaaGreatDoor
