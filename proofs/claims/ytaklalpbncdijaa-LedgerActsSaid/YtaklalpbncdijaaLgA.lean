/- Layer 7 as whole numbers: a clock that is corrected. No program in it. -/
import Derived.Test.YtaklalpbncdijaaFdefs
import Derived.Test.YtaklalpbncdijaaSlA
namespace Go.Proofs.Ytaklalpbncdijaa.W
open Go.RowKit
set_option linter.unusedVariables false
structure En where
  at_ : Int
  by_ : Int
  step : Bool
structure Ck where
  last : Int
  sum : Int
  speed : Int
  l : List En
def enE (e : En) : List Value := [.int .i64 e.at_, .int .i64 e.by_, .bool e.step]
theorem enE_length (e : En) : (enE e).length = 3 := rfl
structure Ck.Ok (c : Ck) : Prop where
  last : 0 ≤ c.last ∧ c.last ≤ 4611686018427387904
  sum : -9223372036854775807 ≤ c.sum ∧ c.sum ≤ 9223372036854775807
  speed : -2147483648 ≤ c.speed ∧ c.speed ≤ 2147483648
  l : c.l.length ≤ 1000
def totE (c : Ck) (raw : Int) : Int := if raw < 0 ∨ 4611686018427387904 < raw then 1 else if raw < c.last then 5 else 0
def tot (c : Ck) (raw : Int) : Int := addI c.sum (mulI c.speed (raw - c.last))
def totV (c : Ck) (raw : Int) : Int := if totE c raw = 0 then tot c raw else 0
def readV (c : Ck) (raw : Int) : Int := if totE c raw = 0 then addI raw (tot c raw) else 0
def sinV (c : Ck) (raw t : Int) : Int := if totE c raw = 0 then subI (tot c raw) t else 0
def corE (c : Ck) (raw b : Int) : Int := if totE c raw ≠ 0 then totE c raw else if b < -1125899906842624 ∨ 1125899906842624 < b then 1 else if 1000 ≤ c.l.length then 2 else 0
def corS (c : Ck) (raw b : Int) (st : Bool) : Ck := if corE c raw b = 0 then ⟨raw, addI (tot c raw) b, c.speed, c.l ++ [⟨raw, b, st⟩]⟩ else c
def ratE (c : Ck) (raw r : Int) : Int := if totE c raw ≠ 0 then totE c raw else if r < -2147483648 ∨ 2147483648 < r then 1 else 0
def ratS (c : Ck) (raw r : Int) : Ck := if ratE c raw r = 0 then ⟨raw, tot c raw, r, c.l⟩ else c
def newS (raw : Int) : Ck := ⟨max 0 (min raw 4611686018427387904), 0, 0, []⟩
theorem new_ok (raw : Int) : (newS raw).Ok := ⟨by simp only [newS]; omega, by simp only [newS]; omega, by simp only [newS]; omega, Nat.zero_le _⟩
theorem addI_range (a b : Int) : -9223372036854775807 ≤ addI a b ∧ addI a b ≤ 9223372036854775807 := cutI_range _
theorem totE_zero {c : Ck} {raw : Int} (h : totE c raw = 0) : 0 ≤ raw ∧ raw ≤ 4611686018427387904 ∧ c.last ≤ raw := by
  unfold totE at h
  split at h
  · cases h
  · split at h
    · cases h
    · omega
theorem cor_ok {c : Ck} (h : c.Ok) (raw b : Int) (st : Bool) : (corS c raw b st).Ok := by
  unfold corS
  split
  · rename_i h0
    unfold corE at h0
    split at h0
    · omega
    · rename_i h1
      have h1 : totE c raw = 0 := by omega
      obtain ⟨a1, a2, a3⟩ := totE_zero h1
      split at h0
      · cases h0
      · split at h0
        · cases h0
        · exact ⟨⟨a1, a2⟩, addI_range _ _, h.speed, by simp; omega⟩
  · exact h
theorem rat_ok {c : Ck} (h : c.Ok) (raw r : Int) : (ratS c raw r).Ok := by
  unfold ratS
  split
  · rename_i h0
    unfold ratE at h0
    split at h0
    · omega
    · rename_i h1
      have h1 : totE c raw = 0 := by omega
      obtain ⟨a1, a2, a3⟩ := totE_zero h1
      split at h0
      · cases h0
      · exact ⟨⟨a1, a2⟩, addI_range _ _, by simp only []; omega, h.l⟩
  · exact h
/-- A call. -/
structure Ac where
  kind : Int
  raw : Int
  by_ : Int
  step : Bool
def acE (a : Ac) : List Value := [.int .i64 a.kind, .int .i64 a.raw, .int .i64 a.by_, .bool a.step]
theorem acE_length (a : Ac) : (acE a).length = 4 := rfl
structure Ac.Typed (a : Ac) : Prop where
  kind : -9223372036854775808 ≤ a.kind ∧ a.kind ≤ 9223372036854775807
  raw : -9223372036854775808 ≤ a.raw ∧ a.raw ≤ 9223372036854775807
  by_ : -9223372036854775808 ≤ a.by_ ∧ a.by_ ≤ 9223372036854775807
def actS (c : Ck) (a : Ac) : Ck := if a.kind = 0 then corS c a.raw a.by_ a.step else if a.kind = 1 then ratS c a.raw a.by_ else c
theorem act_ok {c : Ck} (h : c.Ok) (a : Ac) : (actS c a).Ok := by
  unfold actS
  split
  · exact cor_ok h _ _ _
  · split
    · exact rat_ok h _ _
    · exact h
/-- Between corrections a clock never goes back. -/
theorem read_mono {c : Ck} (h : c.Ok) {a b : Int} (hab : a ≤ b) (ha : totE c a = 0) (hb : totE c b = 0) : readV c a ≤ readV c b := by
  obtain ⟨a1, a2, a3⟩ := totE_zero ha
  obtain ⟨b1, b2, b3⟩ := totE_zero hb
  obtain ⟨s1, s2⟩ := h.speed
  obtain ⟨l1, l2⟩ := h.last
  unfold readV
  rw [if_pos ha, if_pos hb]
  unfold tot addI mulI
  generalize hx : a - c.last = x at *
  generalize hy : b - c.last = y at *
  obtain ⟨d, hd⟩ : ∃ d, d = b - a := ⟨_, rfl⟩
  have hyx : y = x + d := by omega
  have hd0 : 0 ≤ d := by omega
  have hm : c.speed * x / 4294967296 - d ≤ c.speed * y / 4294967296 := by
    have e1 : -2147483648 * d ≤ c.speed * d := Int.mul_le_mul_of_nonneg_right s1 hd0
    rw [hyx, Int.mul_add]
    generalize c.speed * x = p at *
    generalize c.speed * d = q at *
    omega
  generalize c.speed * x / 4294967296 = p at *
  generalize c.speed * y / 4294967296 = q at *
  have hba : b = a + d := by omega
  subst hba
  unfold cutI
  omega
theorem tot_new (c : Ck) (h : c.Ok) (raw : Int) (hs : c.speed = 0) : tot c raw = c.sum := by
  unfold tot mulI addI
  rw [hs, Int.zero_mul]
  have := h.sum
  rw [show cutI (0 / 4294967296) = 0 by decide, Int.add_zero, cutI_in _ this.1 this.2]
end Go.Proofs.Ytaklalpbncdijaa.W
