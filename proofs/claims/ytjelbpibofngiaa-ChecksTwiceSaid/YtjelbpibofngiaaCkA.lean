/- Layer 12 as numbers: what becomes of a packet. No program in it. -/
import Derived.Test.YtjelbpibofngiaaRcA
import Derived.Test.YtjelbpibofngiaaEraA
import Derived.Test.YtjelbpibofngiaaHdB
import Derived.Test.YtjelbpibofngiaaEdE
namespace Go.Proofs.Ytjelbpibofngiaa.W
open Go.RowKit
set_option linter.unusedVariables false
structure Aq where
  ver : Int
  pend : Int
  last : Int
def Aq.val (a : Aq) : Value := .agg #[.int .i64 a.ver, .int .u64 a.pend, .int .u64 a.last]
structure Aq.Typed (a : Aq) : Prop where
  ver : -9223372036854775808 ≤ a.ver ∧ a.ver ≤ 9223372036854775807
  pend : 0 ≤ a.pend ∧ a.pend < 18446744073709551616
  last : 0 ≤ a.last ∧ a.last < 18446744073709551616
def farI (h : Hd) : Int := addI (h.rdel * 65536 / 2) (h.rdis * 65536)
/-- What is said of a packet. -/
def judgeI (p : Pm) (a : Aq) (h : Hd) : Int :=
  if h.ver ≠ a.ver then 51
  else if h.mode ≠ 4 then 120
  else if h.tx ≠ 0 ∧ h.tx = a.last then 121
  else if a.pend = 0 ∨ h.org ≠ a.pend ∨ h.tx = 0 ∨ h.rcv = 0 then 122
  else if kissI h.str h.ref ≠ 0 then 125
  else if h.leap = 3 ∨ 15 < h.str then 123
  else if p.maxdist ≤ farI h ∨ 0 < dfI h.reft h.tx then 124
  else 0
def takeA (p : Pm) (a : Aq) (h : Hd) : Aq :=
  if judgeI p a h = 0 ∨ judgeI p a h = 125 ∨ judgeI p a h = 123 ∨ judgeI p a h = 124 then ⟨a.ver, 0, h.tx⟩ else a
def causeI (e : Int) : Int :=
  if e = 0 then 0 else if e = 50 ∨ e = 60 ∨ e = 1 then 1 else if e = 51 then 2 else if e = 120 then 3 else if e = 121 then 4 else if e = 122 then 5 else if e = 123 then 6 else if e = 124 then 7 else if e = 125 then 8 else 9
theorem cause_in (e : Int) : 0 ≤ causeI e ∧ causeI e ≤ 9 := by
  unfold causeI
  repeat' split
  all_goals omega
theorem judge_cases (p : Pm) (a : Aq) (h : Hd) :
    ((judgeI p a h = 51 ∨ judgeI p a h = 120 ∨ judgeI p a h = 121 ∨ judgeI p a h = 122) ∧ takeA p a h = a) ∨
    ((judgeI p a h = 0 ∨ judgeI p a h = 125 ∨ judgeI p a h = 123 ∨ judgeI p a h = 124) ∧ takeA p a h = ⟨a.ver, 0, h.tx⟩ ∧ h.ver = a.ver ∧ h.mode = 4 ∧ h.tx ≠ 0 ∧ a.pend ≠ 0 ∧ h.org = a.pend) := by
  by_cases h1 : h.ver = a.ver
  · by_cases h2 : h.mode = 4
    · by_cases h3 : h.tx ≠ 0 ∧ h.tx = a.last
      · left
        have e : judgeI p a h = 121 := by unfold judgeI; rw [if_neg (by simpa using h1), if_neg (by simpa using h2), if_pos h3]
        unfold takeA
        rw [e]
        exact ⟨by decide, if_neg (by decide)⟩
      · by_cases h4 : a.pend = 0 ∨ h.org ≠ a.pend ∨ h.tx = 0 ∨ h.rcv = 0
        · left
          have e : judgeI p a h = 122 := by unfold judgeI; rw [if_neg (by simpa using h1), if_neg (by simpa using h2), if_neg h3, if_pos h4]
          unfold takeA
          rw [e]
          exact ⟨by decide, if_neg (by decide)⟩
        · right
          have e : judgeI p a h = 0 ∨ judgeI p a h = 125 ∨ judgeI p a h = 123 ∨ judgeI p a h = 124 := by
            unfold judgeI
            rw [if_neg (by simpa using h1), if_neg (by simpa using h2), if_neg h3, if_neg h4]
            repeat' split
            all_goals simp
          refine ⟨e, by unfold takeA; rw [if_pos e], h1, h2, ?_, ?_, ?_⟩ <;> omega
    · left
      have e : judgeI p a h = 120 := by unfold judgeI; rw [if_neg (by simpa using h1), if_pos h2]
      unfold takeA
      rw [e]
      exact ⟨by decide, if_neg (by decide)⟩
  · left
    have e : judgeI p a h = 51 := by unfold judgeI; rw [if_pos h1]
    unfold takeA
    rw [e]
    exact ⟨by decide, if_neg (by decide)⟩
/-- Where nothing was asked, or another time was, nothing turns. -/
theorem judge_forged {p : Pm} {a : Aq} {h : Hd} (f : ¬ (a.pend ≠ 0 ∧ h.org = a.pend)) : (judgeI p a h = 51 ∨ judgeI p a h = 120 ∨ judgeI p a h = 121 ∨ judgeI p a h = 122) ∧ takeA p a h = a := by
  rcases judge_cases p a h with g | ⟨_, _, _, _, _, u, v⟩
  · exact g
  · exact absurd ⟨u, v⟩ f
/-- A packet that comes twice. -/
theorem judge_twice (p : Pm) (a : Aq) (h : Hd) : takeA p (takeA p a h) h = takeA p a h ∧ judgeI p (takeA p a h) h ≠ 0 ∧ (judgeI p a h = 0 → judgeI p (takeA p a h) h = 121) := by
  rcases judge_cases p a h with ⟨g, e⟩ | ⟨g, e, u1, u2, u3, u4, u5⟩
  · rw [e, e]
    exact ⟨rfl, by omega, fun h0 => by omega⟩
  · rw [e]
    have ej : judgeI p ⟨a.ver, 0, h.tx⟩ h = 121 := by
      unfold judgeI
      rw [if_neg (by simpa using u1), if_neg (by simpa using u2), if_pos ⟨u3, rfl⟩]
    refine ⟨?_, by rw [ej]; decide, fun _ => ej⟩
    unfold takeA
    rw [ej]
    exact if_neg (by decide)
theorem take_typed {p : Pm} {a : Aq} {h : Hd} (ta : a.Typed) (th : h.Typed) : (takeA p a h).Typed := by
  unfold takeA
  split
  · exact ⟨ta.ver, by show (0 : Int) ≤ 0 ∧ (0 : Int) < 18446744073709551616; decide, th.tx⟩
  · exact ta
theorem judge_in (p : Pm) (a : Aq) (h : Hd) : 0 ≤ judgeI p a h ∧ judgeI p a h ≤ 125 := by
  rcases judge_cases p a h with ⟨g, _⟩ | ⟨g, _⟩ <;> omega
end Go.Proofs.Ytjelbpibofngiaa.W
