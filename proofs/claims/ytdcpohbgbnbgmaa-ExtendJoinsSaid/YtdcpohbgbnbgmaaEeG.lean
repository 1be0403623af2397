/- Layer 6's own code, walked: how a reference is named. -/
import Derived.Test.YtdcpohbgbnbgmaaEeA
import Derived.Test.YtdcpohbgbnbgmaaEdE
namespace Go.Proofs.Ytdcpohbgbnbgmaa.W
open Go.RowKit
set_option linter.unusedVariables false
set_option linter.unusedSimpArgs false
theorem text_own {w : World} {B : Nat} {v : Value} {l : List UInt8} (h : w.ownsRow B 5 1 v l.length (bc l)) : (convert 55 9 v).run Try.prog w = .ok (.string (bs l)) w := by
  rcases h.2 with ⟨rfl, hn⟩ | ⟨g, cap, cur, rfl, hb, hg, h1, h2, h3, h4⟩
  · have hl : l = [] := List.eq_nil_of_length_eq_zero hn
    subst hl
    exact run_convert_bytes_nil w _ _ Try.underlying55 Try.underlying5 _ _ _ Try.underlying9
  · refine run_convert_bytes_back w _ _ _ _ cap l Try.underlying55 Try.underlying5 Try.underlying9 ?_
    intro j hj
    exact h.cells (g := g) rfl j _ (by simp [bc, hj])
theorem ownsRow_succ6 {W : World} {base : Nat} {e : TypeId} {size : Nat} {v : Value} {k : Nat} {xs : List Value} (h : W.ownsRow base e size v (k + 1) xs) : ∃ g cap, v = .slice (some ⟨g, 0, none⟩) (k + 1) cap := by
  rcases h.2 with ⟨_, h0⟩ | ⟨g, cap, _, rfl, _⟩
  · omega
  · exact ⟨g, cap, rfl⟩
theorem nameF_zero : ∀ l : List UInt8, nameF (l ++ [0]) = nameF l
  | [] => by simp [nameF]
  | b :: l => by
    have := nameF_zero l
    rw [List.cons_append]
    unfold nameF
    rw [this]
theorem be4 (x : Int) : be 4 x = [b8 (x / 16777216 % 256), b8 (x / 65536 % 256), b8 (x / 256 % 256), b8 (x % 256)] := by
  simp [be]
theorem b8_zero (t : Int) (h0 : 0 ≤ t) (h1 : t < 256) : b8 t = 0 ↔ t = 0 := by
  constructor
  · intro h
    have := b8_nat t h0 h1
    rw [h] at this
    simpa using this.symm
  · rintro rfl
    rfl
theorem name_end (x : Int) (h0 : 0 ≤ x) (h1 : x < 4294967296) (h : x / 16777216 = 0) : nameF (be 4 x) = [] := by
  rw [be4, show x / 16777216 % 256 = 0 by omega]
  rfl
theorem name_step (x y : Int) (h0 : 0 ≤ x) (h1 : x < 4294967296) (h : x / 16777216 ≠ 0) (hy : y = x * 256 % 4294967296) : nameF (be 4 x) = b8 (letterI (x / 16777216)) :: nameF (be 4 y) := by
  have e : be 4 y = [b8 (x / 65536 % 256), b8 (x / 256 % 256), b8 (x % 256)] ++ [0] := by
    rw [be4, show y / 16777216 % 256 = x / 65536 % 256 by omega, show y / 65536 % 256 = x / 256 % 256 by omega, show y / 256 % 256 = x % 256 by omega, show y % 256 = 0 by omega]
    rfl
  have t0 : 0 ≤ x / 16777216 := by omega
  have t1 : x / 16777216 < 256 := by omega
  rw [e, nameF_zero, be4, show x / 16777216 % 256 = x / 16777216 by omega]
  rw [nameF, if_neg (by rw [b8_zero _ t0 t1]; exact h), b8_nat _ t0 t1]
  unfold letterI
  split
  · rfl
  · rfl
set_option maxHeartbeats 3200000 in
theorem ename_any (r : Int) (r0 : 0 ≤ r) (r1 : r < 4294967296) (w : World) :
    Calls Try.prog 17 #[.int .u32 r] w fun e w' => e = .returned (.string (bs (nameL r))) ∧ Below w.heap.size w w' := by
  obtain ⟨i0, hi, hz0, hz1, hz2⟩ := info_parts info_u8
  go_enter Try.func17, Try.ntmps17
  go_wp2
  go_loopw [3, 4] (fun v x wr => ∃ (acc : List UInt8) (y : Int), x = .int .u32 y ∧ 0 ≤ y ∧ y < 4294967296 ∧ acc.length ≤ 4 ∧ y % 256 ^ acc.length = 0 ∧ wr.ownsRow w.heap.size 5 1 v acc.length (bc acc) ∧ nameL r = acc ++ nameF (be 4 y) ∧ Below w.heap.size w wr)
    (fun v _ _ => match v with | .slice _ n _ => 4 - n | _ => 0)
  case atStart => exact ⟨[], r, rfl, r0, r1, by simp, by simp [Int.emod_one], World.ownsRow_nil _ _ _ _, rfl, Below.refl _ _⟩
  case round =>
    obtain ⟨acc, y, rfl, y0, y1, hk, hd, own, hn, hB⟩ := hrel
    have hsz := hB.size
    have c := letter_any (y / 16777216)
    by_cases hz : y / 16777216 = 0
    · rw [name_end y y0 y1 hz, List.append_nil] at hn
      have HN := Lib.hid hn
      have ht := text_own own
      clear hn hd c
      go_wp2_with fail
      go_ret
      exact ⟨by rw [HN.out]; rfl, hB⟩
    · rw [name_step y _ y0 y1 hz rfl] at hn
      have hk4 : acc.length < 4 := by
        rcases Nat.lt_or_ge acc.length 4 with h | h
        · exact h
        · exfalso
          rw [show acc.length = 4 by omega] at hd
          simp only [Int.reducePow] at hd
          omega
      have hd2 : (y * 256 % 4294967296) % 256 ^ (acc.length + 1) = 0 := by
        have hc : acc.length = 0 ∨ acc.length = 1 ∨ acc.length = 2 ∨ acc.length = 3 := by omega
        rcases hc with e | e | e | e <;> rw [e] at hd ⊢ <;> simp only [Int.reducePow, Nat.reduceAdd] at hd ⊢ <;> omega
      have l0 : 0 ≤ letterI (y / 16777216) ∧ letterI (y / 16777216) < 256 := by
        unfold letterI
        split <;> omega
      have HN := Lib.hid hn
      have HD := Lib.hid hd2
      have wy : IntKind.u8.wrap (y / 16777216) = y / 16777216 := by rw [IntKind.wrap_u8]; omega
      clear hn hd hd2
      generalize letterI (y / 16777216) = g at *
      go_wp2_with fail
      (with_reducible refine (c _).mono ?_)
      rintro e w' ⟨rfl, rfl⟩
      go_wp2_with (at_builtin; refine wpList_append_own _ rfl _ _ 55 rfl w.heap.size 5 i0 (.int .u8 0) 1 1 Try.underlying55 hi hz0 hz1 hz2 rfl (by decide) _ _ _ rfl (own.alloc _) ⟨wr.heap.size, 0, none⟩ 1 1 [.int .u8 g] rfl rfl (new_cells _ _ _) (by intro u hu; simp at hu; subst hu; rfl) (by unfold maxLen; omega) (by omega) (by simp; omega) ?_; intro v' w1 hown1 hgrow _; obtain ⟨g', cap', rfl⟩ := ownsRow_succ6 hown1; rw [bc_snoc _ _ l0.1 l0.2] at hown1)
      go_roundw
      case rel => exact ⟨acc ++ [b8 g], y * 256 % 4294967296, by go_num, by omega, by omega, by simp; omega, by rw [List.length_append]; exact HD.out, by simpa using hown1, by rw [HN.out]; simp, (Below.alloc hB hsz _).grown hgrow (by simp; omega) (fun k hk => (own.lt k hk).1)⟩
      case measure =>
        obtain ⟨a, c, rfl⟩ : ∃ a c, u3 = .slice a acc.length c := by
          rcases own.2 with ⟨rfl, h⟩ | ⟨g, cap, _, rfl, _⟩
          · exact ⟨none, 0, by rw [h]⟩
          · exact ⟨_, _, rfl⟩
        simp
        omega
end Go.Proofs.Ytdcpohbgbnbgmaa.W
