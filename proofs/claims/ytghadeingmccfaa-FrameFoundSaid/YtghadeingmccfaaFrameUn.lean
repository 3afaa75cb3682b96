/- Wrap and Unwrap of the frames, and the reference's: one result each, whatever the input. -/
import Derived.Test.YtghadeingmccfaaR7Wrap
namespace Go.Proofs.Ytghadeingmccfaa
open Go.RowKit
open FrM (flen inner frame)
def wrapNo (kind : Int) (l : List UInt8) : Prop := kind < 0 ∨ 255 < kind ∨ 291 < l.length
instance (kind : Int) (l : List UInt8) : Decidable (wrapNo kind l) := by unfold wrapNo; exact inferInstance
def wrapL (kind : Int) (l : List UInt8) : List UInt8 := if wrapNo kind l then [] else frame (UInt8.ofNat kind.toNat) l
def wrapE (kind : Int) (l : List UInt8) : Int := if wrapNo kind l then 1 else 0
def WrapAny (L : List UInt8) (r : Int) (w : World) (e : Ending) (w' : World) : Prop :=
  ∃ A n cap, e = .returned (.tuple #[.slice A n cap, .int .i64 r]) ∧ Hid (n = L.length) ∧ Hid (Row w' w'.heap.size A n (bv L)) ∧ Hid (n ≤ cap ∧ cap ≤ 9223372036854775807) ∧ Hid (Below w.heap.size w w')
theorem wrap_kind (kind : Int) (n cap : Nat) (A : Option Addr) (w : World) (hk : kind < 0 ∨ 255 < kind) : Calls Try.prog 7 #[.int .i64 kind, .slice A n cap] w (WrapNo w) := by
  by_cases h : kind < 0
  · clear hk
    go_enter Try.func7, Try.ntmps7
    go_wp2_with fail
    go_ret2
    exact ⟨rfl, rfl⟩
  · have h2 : 255 < kind := by omega
    clear hk
    go_enter Try.func7, Try.ntmps7
    go_wp2_with fail
    go_ret2
    exact ⟨rfl, rfl⟩
theorem r7wrap_kind (kind : Int) (n cap : Nat) (A : Option Addr) (w : World) (hk : kind < 0 ∨ 255 < kind) : Calls Try.prog 8 #[.int .i64 kind, .slice A n cap] w (WrapNo w) := by
  by_cases h : kind < 0
  · clear hk
    go_enter Try.func8, Try.ntmps8
    go_wp2_with fail
    go_ret2
    exact ⟨rfl, rfl⟩
  · have h2 : 255 < kind := by omega
    clear hk
    go_enter Try.func8, Try.ntmps8
    go_wp2_with fail
    go_ret2
    exact ⟨rfl, rfl⟩
theorem wrap_no {kind : Int} {l : List UInt8} {w : World} (h : wrapNo kind l) : ∀ e w', WrapNo w e w' → WrapAny (wrapL kind l) (wrapE kind l) w e w' := by
  rintro e w' ⟨rfl, rfl⟩
  unfold wrapL wrapE
  rw [if_pos h, if_pos h]
  exact ⟨none, 0, 0, rfl, rfl, Row.nil _ _ _, ⟨Nat.le_refl _, by omega⟩, Below.refl _ _⟩
theorem wrap_yes {kind : Int} {l : List UInt8} {w : World} (h : ¬ wrapNo kind l) : ∀ e w', WrapOk (frame (UInt8.ofNat kind.toNat) l) w e w' → WrapAny (wrapL kind l) (wrapE kind l) w e w' := by
  rintro e w' ⟨A, n, cap, rfl, hn, hown, hb⟩
  unfold wrapL wrapE
  rw [if_neg h, if_neg h]
  exact ⟨A, n, cap, rfl, hn, Row.of_own hown, own_cap hown, hb⟩
theorem wrap_any (kind : Int) (B n cap : Nat) (A : Option Addr) (l : List UInt8) (w : World) (hl : Row w B A n (bv l)) (hB : B ≤ w.heap.size) :
    Calls Try.prog 7 #[.int .i64 kind, .slice A n cap] w (WrapAny (wrapL kind l) (wrapE kind l) w) := by
  have hbl := hl.blen
  by_cases h : wrapNo kind l
  · by_cases hk : kind < 0 ∨ 255 < kind
    · exact (wrap_kind kind n cap A w hk).mono (wrap_no h)
    · exact (wrap_long kind n cap A w (by omega) (by omega) (by unfold wrapNo at h; omega)).mono (wrap_no h)
  · have h2 := h
    unfold wrapNo at h2
    have e : ((UInt8.ofNat kind.toNat).toNat : Int) = kind := by rw [UInt8.toNat_ofNat']; omega
    have := wrap_ok (UInt8.ofNat kind.toNat) B n cap A l w hl (by omega) hB
    rw [e] at this
    exact this.mono (wrap_yes h)
theorem r7wrap_any (kind : Int) (B n cap : Nat) (A : Option Addr) (l : List UInt8) (w : World) (hl : Row w B A n (bv l)) (hB : B ≤ w.heap.size) :
    Calls Try.prog 8 #[.int .i64 kind, .slice A n cap] w (WrapAny (wrapL kind l) (wrapE kind l) w) := by
  have hbl := hl.blen
  by_cases h : wrapNo kind l
  · by_cases hk : kind < 0 ∨ 255 < kind
    · exact (r7wrap_kind kind n cap A w hk).mono (wrap_no h)
    · exact (r7wrap_long kind n cap A w (by omega) (by omega) (by unfold wrapNo at h; omega)).mono (wrap_no h)
  · have h2 := h
    unfold wrapNo at h2
    have e : ((UInt8.ofNat kind.toNat).toNat : Int) = kind := by rw [UInt8.toNat_ofNat']; omega
    have := r7wrap_ok (UInt8.ofNat kind.toNat) B n cap A l w hl (by omega) hB
    rw [e] at this
    exact this.mono (wrap_yes h)
/-- what Unwrap answers of l: the kind, what it carries, the error -/
inductive Un (l : List UInt8) : Nat → List UInt8 → Int → Prop
  | long (h : 300 < l.length) : Un l 0 [] 3
  | short (h : l.length < 9) : Un l 0 [] 2
  | head (h9 : 9 ≤ l.length) (h3 : l.length ≤ 300) (h : ¬ headOk l) : Un l 0 [] 3
  | check (h9 : 9 ≤ l.length) (h3 : l.length ≤ 300) (h : headOk l) (hr : ¬ isRight (l.drop 2)) : Un l 0 [] 4
  | ok (h9 : 9 ≤ l.length) (h3 : l.length ≤ 300) (h : headOk l) (hr : isRight (l.drop 2)) : Un l (l.getD 2 0).toNat (FrM.load l) 0
theorem un_is (l : List UInt8) : ∃ k m g, Un l k m g := by
  by_cases h3 : 300 < l.length
  · exact ⟨_, _, _, .long h3⟩
  by_cases h9 : l.length < 9
  · exact ⟨_, _, _, .short h9⟩
  by_cases hh : headOk l
  · by_cases hr : isRight (l.drop 2)
    · exact ⟨_, _, _, .ok (by omega) (by omega) hh hr⟩
    · exact ⟨_, _, _, .check (by omega) (by omega) hh hr⟩
  · exact ⟨_, _, _, .head (by omega) (by omega) hh⟩
def UnAny (k : Nat) (m : List UInt8) (g : Int) (w : World) (e : Ending) (w' : World) : Prop :=
  ∃ A n cap, e = .returned (.tuple #[.int .i64 (k : Int), .slice A n cap, .int .i64 g]) ∧ Hid (Row w' w'.heap.size A n (bv m)) ∧ Hid (Below w.heap.size w w')
theorem un_err {r : Int} {w : World} : ∀ e w', UnErr r w e w' → UnAny 0 [] r w e w' := by
  rintro e w' ⟨rfl, hb⟩
  exact ⟨none, 0, 0, rfl, Row.nil _ _ _, hb⟩
theorem un_ok {k : Nat} {m : List UInt8} {w : World} : ∀ e w', UnOk k m w e w' → UnAny k m 0 w e w' := by
  rintro e w' ⟨A, n, cap, rfl, _, hr, _, hb⟩
  exact ⟨A, n, cap, rfl, hr, hb⟩
theorem unwrap_any (B n cap : Nat) (A : Option Addr) (l : List UInt8) (k : Nat) (m : List UInt8) (g : Int) (w : World) (hl : Row w B A n (bv l)) (hn : n ≤ cap) (hcap : cap ≤ 9223372036854775807) (hB : B ≤ w.heap.size) (hu : Un l k m g) :
    Calls Try.prog 9 #[.slice A n cap] w (UnAny k m g w) := by
  have hbl := hl.blen
  cases hu with
  | long h => exact (unwrap_long n cap A w (by omega)).mono un_err
  | short h => exact (unwrap_short n cap A w (by omega)).mono un_err
  | head h9 h3 h => exact (unwrap_head B n cap A l w hl (by omega) (by omega) hn hcap h).mono un_err
  | check h9 h3 h hr => exact (unwrap_check B n cap A l w hl (by omega) (by omega) hn hcap hB h hr).mono un_err
  | ok h9 h3 h hr => exact (unwrap_ok B n cap A l w hl (by omega) (by omega) hn hcap hB h hr).mono un_ok
theorem r7unwrap_any (B n cap : Nat) (A : Option Addr) (l : List UInt8) (k : Nat) (m : List UInt8) (g : Int) (w : World) (hl : Row w B A n (bv l)) (hn : n ≤ cap) (hcap : cap ≤ 9223372036854775807) (hB : B ≤ w.heap.size) (hu : Un l k m g) :
    Calls Try.prog 10 #[.slice A n cap] w (UnAny k m g w) := by
  have hbl := hl.blen
  cases hu with
  | long h => exact (r7unwrap_long n cap A w (by omega)).mono un_err
  | short h => exact (r7unwrap_short n cap A w (by omega)).mono un_err
  | head h9 h3 h => exact (r7unwrap_head B n cap A l w hl (by omega) (by omega) hn hcap h).mono un_err
  | check h9 h3 h hr => exact (r7unwrap_check B n cap A l w hl (by omega) (by omega) hn hcap hB h hr).mono un_err
  | ok h9 h3 h hr => exact (r7unwrap_ok B n cap A l w hl (by omega) (by omega) hn hcap hB h hr).mono un_ok
end Go.Proofs.Ytghadeingmccfaa
