/- Layer 11 as numbers: when a server is asked, and whether it answers. No program in it. -/
import Derived.Test.YtfangllkfcmefaaGreatFdefs
import Derived.Test.YtfangllkfcmefaaGreatStH
namespace Go.Proofs.YtfangllkfcmefaaGreat.W
open Go.RowKit
set_option linter.unusedVariables false
structure Rs where
  reg : Int
  host : Int
  peer : Int
  burst : Int
  next : Int
def Rs.val (s : Rs) : Value := .agg #[.int .u8 s.reg, .int .i64 s.host, .int .i64 s.peer, .int .i64 s.burst, .int .i64 s.next]
structure Rs.Typed (s : Rs) : Prop where
  reg : 0 ≤ s.reg ∧ s.reg ≤ 255
  host : -9223372036854775808 ≤ s.host ∧ s.host ≤ 9223372036854775807
  peer : -9223372036854775808 ≤ s.peer ∧ s.peer ≤ 9223372036854775807
  burst : -9223372036854775808 ≤ s.burst ∧ s.burst ≤ 9223372036854775807
  next : -9223372036854775808 ≤ s.next ∧ s.next ≤ 9223372036854775807
structure Pm.Typed (p : Pm) : Prop where
  step : -9223372036854775808 ≤ p.step ∧ p.step ≤ 9223372036854775807
  watch : -9223372036854775808 ≤ p.watch ∧ p.watch ≤ 9223372036854775807
  panic : -9223372036854775808 ≤ p.panic ∧ p.panic ≤ 9223372036854775807
  maxrate : -9223372036854775808 ≤ p.maxrate ∧ p.maxrate ≤ 9223372036854775807
  phi : -9223372036854775808 ≤ p.phi ∧ p.phi ≤ 9223372036854775807
  maxdist : -9223372036854775808 ≤ p.maxdist ∧ p.maxdist ≤ 9223372036854775807
  gate : -9223372036854775808 ≤ p.gate ∧ p.gate ≤ 9223372036854775807
  minpoll : -9223372036854775808 ≤ p.minpoll ∧ p.minpoll ≤ 9223372036854775807
  maxpoll : -9223372036854775808 ≤ p.maxpoll ∧ p.maxpoll ≤ 9223372036854775807
  burst : -9223372036854775808 ≤ p.burst ∧ p.burst ≤ 9223372036854775807
  minsane : -9223372036854775808 ≤ p.minsane ∧ p.minsane ≤ 9223372036854775807
  minleft : -9223372036854775808 ≤ p.minleft ∧ p.minleft ≤ 9223372036854775807
/-- A poll exponent, held within. -/
def heldI (p : Pm) (n : Int) : Int := if n < p.minpoll then p.minpoll else if p.maxpoll < n then p.maxpoll else n
def moreI (n : Int) : Int := if 1099511627776 ≤ n then n else n + 1
def startS (p : Pm) (now draw : Int) : Rs := ⟨0, p.minpoll, p.minpoll, p.burst, addI now draw⟩
def pollS (p : Pm) (s : Rs) : Int := heldI p (min s.host s.peer)
/-- The host's exponent behind a question that is no burst's. -/
def hostS (p : Pm) (s : Rs) : Int := if s.reg * 2 % 256 % 8 = 0 then heldI p (moreI s.host) else s.host
def waitS (now draw n : Int) : Int := addI (addI now (shiftI 4294967296 n)) (shiftI draw (max n (-1099511627776) - 4))
def sentS (p : Pm) (s : Rs) (now draw : Int) : Rs :=
  if 0 < s.burst then ⟨s.reg * 2 % 256, s.host, s.peer, s.burst - 1, addI now 8589934592⟩
  else ⟨s.reg * 2 % 256, hostS p s, s.peer, s.burst, waitS now draw (heldI p (min (hostS p s) s.peer))⟩
def heardS (p : Pm) (s : Rs) (poll : Int) : Rs := ⟨if s.reg % 2 = 0 then s.reg + 1 else s.reg, s.host, heldI p poll, s.burst, s.next⟩
def ansI (s : Rs) : Int := s.reg % 2 + s.reg / 2 % 2 + s.reg / 4 % 2 + s.reg / 8 % 2 + s.reg / 16 % 2 + s.reg / 32 % 2 + s.reg / 64 % 2 + s.reg / 128 % 2
theorem held_typed {p : Pm} (t : p.Typed) {n : Int} (h : -9223372036854775808 ≤ n ∧ n ≤ 9223372036854775807) : -9223372036854775808 ≤ heldI p n ∧ heldI p n ≤ 9223372036854775807 := by
  have := t.minpoll
  have := t.maxpoll
  unfold heldI
  repeat' split
  all_goals omega
theorem more_typed {n : Int} (h : -9223372036854775808 ≤ n ∧ n ≤ 9223372036854775807) : -9223372036854775808 ≤ moreI n ∧ moreI n ≤ 9223372036854775807 := by
  unfold moreI
  split <;> omega
theorem add_typed (a b : Int) : -9223372036854775808 ≤ addI a b ∧ addI a b ≤ 9223372036854775807 := by
  have := cutI_range (a + b)
  unfold addI
  omega
/-- What is set as a rule. -/
structure Std (p : Pm) : Prop where
  typed : p.Typed
  minpoll : p.minpoll = 6
  maxpoll : p.maxpoll = 10
  burst : p.burst = 0
theorem set_typed (c : Cf) (t : c.Typed) : (setP c).Typed := by
  have b := ofV_bounds
  unfold setP
  refine ⟨?_, ?_, ?_, ?_, ?_, ?_, ?_, ?_, ?_, ?_, ?_, ?_⟩ <;> dsimp only
  · exact b _
  · exact b _
  · exact b _
  · exact b _
  · exact b _
  · exact b _
  · exact b _
  · exact t.minpoll
  · exact t.maxpoll
  · exact t.burst
  · exact t.minsane
  · exact t.minleft
theorem std_params : Std (chkP stdC) := by
  have e : chkP stdC = setP stdC := by
    unfold chkP
    rw [std_none, if_pos rfl]
  rw [e]
  have ht := set_typed stdC (by refine ⟨?_, ?_, ?_, ?_, ?_, ?_, ?_, ⟨?_, ?_⟩, ⟨?_, ?_⟩, ⟨?_, ?_⟩, ⟨?_, ?_⟩, ⟨?_, ?_⟩⟩ <;> decide)
  refine ⟨ht, ?_, ?_, ?_⟩
  · unfold setP
    dsimp only
    rfl
  · unfold setP
    dsimp only
    rfl
  · unfold setP
    dsimp only
    rfl
theorem held_std {p : Pm} (h : Std p) (n : Int) : heldI p n = if n < 6 then 6 else if 10 < n then 10 else n := by
  unfold heldI
  rw [h.minpoll, h.maxpoll]
theorem held_in {p : Pm} (h : Std p) {n : Int} (a : 6 ≤ n) (b : n ≤ 10) : heldI p n = n := by
  rw [held_std h, if_neg (by omega), if_neg (by omega)]
/-- Waits of the exponents that are standard. -/
theorem wait_std {now draw n : Int} (a : 6 ≤ n) (b : n ≤ 10) (n0 : 0 ≤ now) (n1 : now ≤ 4611686018427387904) (d0 : 0 ≤ draw) (d1 : draw < 4294967296) :
    (n = 6 ∧ waitS now draw n = now + 274877906944 + 4 * draw) ∨ (n = 7 ∧ waitS now draw n = now + 549755813888 + 8 * draw) ∨ (n = 8 ∧ waitS now draw n = now + 1099511627776 + 16 * draw) ∨ (n = 9 ∧ waitS now draw n = now + 2199023255552 + 32 * draw) ∨ (n = 10 ∧ waitS now draw n = now + 4398046511104 + 64 * draw) := by
  have key : ∀ (m : Int) (k : Int) (W : Int), n = m → max m (-1099511627776) - 4 = k → shiftI 4294967296 m = W → 0 ≤ W → W ≤ 4398046511104 → 0 ≤ k → k ≤ 6 → waitS now draw n = now + W + draw * 2 ^ k.toNat := by
    intro m k W e1 e2 e3 w0 w1 k0 k1
    have e4 : shiftI draw k = draw * 2 ^ k.toNat := by
      unfold shiftI
      rw [if_neg (by omega), show min k 1000 = k by omega]
      have hk : k = 0 ∨ k = 1 ∨ k = 2 ∨ k = 3 ∨ k = 4 ∨ k = 5 ∨ k = 6 := by omega
      rcases hk with rfl | rfl | rfl | rfl | rfl | rfl | rfl <;> exact cutI_in _ (by simp; omega) (by simp; omega)
    have e5 : 0 ≤ draw * 2 ^ k.toNat ∧ draw * 2 ^ k.toNat ≤ 274877906944 := by
      have hk : k = 0 ∨ k = 1 ∨ k = 2 ∨ k = 3 ∨ k = 4 ∨ k = 5 ∨ k = 6 := by omega
      rcases hk with rfl | rfl | rfl | rfl | rfl | rfl | rfl <;> constructor <;> simp <;> omega
    unfold waitS
    subst e1
    rw [e2, e3, e4]
    generalize draw * 2 ^ k.toNat = X at *
    unfold addI
    rw [cutI_in (now + W) (by omega) (by omega), cutI_in _ (by omega) (by omega)]
  have hn : n = 6 ∨ n = 7 ∨ n = 8 ∨ n = 9 ∨ n = 10 := by omega
  rcases hn with h | h | h | h | h
  · left
    have := key 6 2 274877906944 h (by decide) (by decide) (by decide) (by decide) (by decide) (by decide)
    refine ⟨h, ?_⟩
    rw [this, show ((2 : Int).toNat) = 2 from rfl]
    omega
  · right; left
    have := key 7 3 549755813888 h (by decide) (by decide) (by decide) (by decide) (by decide) (by decide)
    refine ⟨h, ?_⟩
    rw [this, show ((3 : Int).toNat) = 3 from rfl]
    omega
  · right; right; left
    have := key 8 4 1099511627776 h (by decide) (by decide) (by decide) (by decide) (by decide) (by decide)
    refine ⟨h, ?_⟩
    rw [this, show ((4 : Int).toNat) = 4 from rfl]
    omega
  · right; right; right; left
    have := key 9 5 2199023255552 h (by decide) (by decide) (by decide) (by decide) (by decide) (by decide)
    refine ⟨h, ?_⟩
    rw [this, show ((5 : Int).toNat) = 5 from rfl]
    omega
  · right; right; right; right
    have := key 10 6 4398046511104 h (by decide) (by decide) (by decide) (by decide) (by decide) (by decide)
    refine ⟨h, ?_⟩
    rw [this, show ((6 : Int).toNat) = 6 from rfl]
    omega
end Go.Proofs.YtfangllkfcmefaaGreat.W
