/- Layer 11's own code, walked: times added, a state changed by closures one behind the other, each closure. -/
import Derived.Test.YtfangllkfcmefaaGreatRdA
import Derived.Laws.CopyOwn
import Derived.Deep.DeepCutAuto
namespace Go.Proofs.YtfangllkfcmefaaGreat.W
open Go.RowKit Go.Sort
set_option linter.unusedVariables false
set_option linter.unusedSimpArgs false
theorem shift_low (a n : Int) : shiftI a (max n (-1000) - 4) = shiftI a (max n (-1099511627776) - 4) := by
  by_cases h : -1000 ≤ n
  · rw [show max n (-1000) = n by omega, show max n (-1099511627776) = n by omega]
  · rw [show max n (-1000) = -1000 by omega]
    unfold shiftI
    rw [if_pos (by decide), if_pos (by omega), show (min (-((-1000 : Int) - 4)) 1000).toNat = 1000 by decide, show (min (-(max n (-1099511627776) - 4)) (1000 : Int)).toNat = 1000 by omega]
set_option maxHeartbeats 1600000 in
theorem gspread_any (d n : Int) (d0 : 0 ≤ d) (d1 : d < 4294967296) (n0 : -9223372036854775808 ≤ n) (n1 : n ≤ 9223372036854775807) (w : World) : Calls Tryz.prog 31 #[.int .u32 d, .int .i64 n] w fun e w' => e = .returned (.int .i64 (shiftI d (max n (-1099511627776) - 4))) ∧ w = w' := by
  rw [← shift_low]
  rcases Int.lt_trichotomy n (-1000) with h | h | h
  · have c := shift_any d (-1000 - 4) (by omega) (by omega) (by decide) (by decide)
    rw [show max n (-1000) = -1000 by omega]
    rw [show (-1000 - 4 : Int) = -1004 from rfl] at *
    generalize shiftI d (-1004) = r at *
    go_enter Tryz.func31, Tryz.ntmps31
    go_wp2_with fail
    (with_reducible refine (c _).mono ?_)
    rintro e w1 ⟨rfl, rfl⟩
    go_wp2_with fail
    go_ret
    exact ⟨rfl, rfl⟩
  · subst h
    have c := shift_any d (-1000 - 4) (by omega) (by omega) (by decide) (by decide)
    rw [show max (-1000) (-1000) = (-1000 : Int) by omega]
    rw [show (-1000 - 4 : Int) = -1004 from rfl] at *
    generalize shiftI d (-1004) = r at *
    go_enter Tryz.func31, Tryz.ntmps31
    go_wp2_with fail
    (with_reducible refine (c _).mono ?_)
    rintro e w1 ⟨rfl, rfl⟩
    go_wp2_with fail
    go_ret
    exact ⟨rfl, rfl⟩
  · have c := shift_any d (n - 4) (by omega) (by omega) (by omega) (by omega)
    rw [show max n (-1000) = n by omega]
    generalize shiftI d (n - 4) = r at *
    go_enter Tryz.func31, Tryz.ntmps31
    go_wp2_with fail
    (with_reducible refine (c _).mono ?_)
    rintro e w1 ⟨rfl, rfl⟩
    go_wp2_with fail
    go_ret
    exact ⟨rfl, rfl⟩
set_option maxHeartbeats 1600000 in
theorem gafter1 (now t : Int) (b cap : Nat) (n0 : -9223372036854775808 ≤ now) (n1 : now ≤ 9223372036854775807) (t0 : -9223372036854775808 ≤ t) (t1 : t ≤ 9223372036854775807) (w : World) (hc : w.cell? ⟨b, 0, none⟩ = some (.int .i64 t)) :
    Calls Tryz.prog 25 #[.int .i64 now, .slice (some ⟨b, 0, none⟩) 1 cap] w fun e w' => e = .returned (.int .i64 (addI now t)) ∧ w = w' := by
  have c := add_any now t n0 n1 t0 t1
  generalize addI now t = r at *
  go_enter Tryz.func25, Tryz.ntmps25
  go_wp2_with fail
  refine wp_loop_rounds 2 ?_
  rw [rounds_succ]
  go_wp2_with fail
  (with_reducible refine (c _).mono ?_)
  rintro e w1 ⟨rfl, rfl⟩
  go_wp2_with fail
  rw [rounds_succ]
  go_wp2_with fail
  go_ret
  exact ⟨rfl, rfl⟩
set_option maxHeartbeats 1600000 in
theorem gafter2 (now t u : Int) (b cap : Nat) (n0 : -9223372036854775808 ≤ now) (n1 : now ≤ 9223372036854775807) (t0 : -9223372036854775808 ≤ t) (t1 : t ≤ 9223372036854775807) (u0 : -9223372036854775808 ≤ u) (u1 : u ≤ 9223372036854775807) (w : World) (hc : w.cell? ⟨b, 0, none⟩ = some (.int .i64 t)) (hd : w.cell? ⟨b, 1, none⟩ = some (.int .i64 u)) :
    Calls Tryz.prog 25 #[.int .i64 now, .slice (some ⟨b, 0, none⟩) 2 cap] w fun e w' => e = .returned (.int .i64 (addI (addI now t) u)) ∧ w = w' := by
  have c := add_any now t n0 n1 t0 t1
  have ⟨r0, r1⟩ := add_typed now t
  have d := add_any (addI now t) u r0 r1 u0 u1
  generalize addI (addI now t) u = q at *
  generalize addI now t = r at *
  go_enter Tryz.func25, Tryz.ntmps25
  go_wp2_with fail
  refine wp_loop_rounds 3 ?_
  rw [rounds_succ]
  go_wp2_with fail
  (with_reducible refine (c _).mono ?_)
  rintro e w1 ⟨rfl, rfl⟩
  go_wp2_with fail
  rw [rounds_succ]
  go_wp2_with fail
  (with_reducible refine (d _).mono ?_)
  rintro e w1 ⟨rfl, rfl⟩
  go_wp2_with fail
  rw [rounds_succ]
  go_wp2_with fail
  go_ret
  exact ⟨rfl, rfl⟩
theorem info_rs11 : (Tryz.prog.info? 27).map (·.size) = some 5 := by kernel_rfl
theorem load_rs11 {w : World} {b : Nat} {C : Array Value} {t : TypeId} (h : w.heap[b]? = some (.cells C t (0, 0))) (hn : C.size = 5) : (Instr.loadAt 27 (.pointer (some ⟨b, 0, none⟩))).run Tryz.prog w = .ok (.agg C) w := by
  have := run_loadVar_row (P := Tryz.prog) w b t 27 C (0, 0) _ h Tryz.underlying27 rfl (by rw [info_rs11, hn])
  simp only [Instr.loadAt, Instr.sureAddr, Sem.run_bind, Sem.run_pure, Result.andThen_ok, this]
theorem store_rs11 {w : World} {b : Nat} {C D : Array Value} {t : TypeId} (h : w.heap[b]? = some (.cells D t (0, 0))) (hD : D.size = 5) (hn : C.size = 5) (h1 : C.all (·.oneCell') = true) : (Instr.storeAt 27 (.pointer (some ⟨b, 0, none⟩)) (.agg C)).run Tryz.prog w = .ok () (w.setRow b C) := by
  have := run_storeVar_row (P := Tryz.prog) w b t 27 D C h (by rw [info_rs11, hn]) (by rw [hD, hn]) h1
  simp only [Instr.storeAt, Instr.sureAddr, Sem.run_bind, Sem.run_pure, Result.andThen_ok, this]
section
variable {ops : Array Oper} {Q : Exit → Act → World → Prop} {rest : List Oper} {o : Oper} {a : Act} {w : World}
theorem at_load_rs11 (hgd : o.guard = none) (x : Operand) (ho : o.op = .load 27 x) (b : Nat) (hx : a.eval x = .pointer (some ⟨b, 0, none⟩)) {C : Array Value} {t : TypeId} (hC : w.heap[b]? = some (.cells C t (0, 0))) (hn : C.size = 5) (h : wpList Tryz.prog ops Q rest (a.put o.dst (.agg C)) w) : wpList Tryz.prog ops Q (o :: rest) a w :=
  wpList_plain hgd fun K hK => by
    unfold Oper.wp execOp
    simp only [ho, hx, Sem.run_bind, load_rs11 hC hn, Result.andThen_ok, Sem.run_pure]
    exact hK _ _ h
theorem at_store_rs11 (hgd : o.guard = none) (x y : Operand) (ho : o.op = .store 27 x y) (b : Nat) (hx : a.eval x = .pointer (some ⟨b, 0, none⟩)) {C D : Array Value} {t : TypeId} (hy : a.eval y = .agg C) (hD : w.heap[b]? = some (.cells D t (0, 0))) (hd : D.size = 5) (hn : C.size = 5) (h1 : C.all (·.oneCell') = true) (h : wpList Tryz.prog ops Q rest (a.put o.dst undef) (w.setRow b C)) : wpList Tryz.prog ops Q (o :: rest) a w :=
  wpList_plain hgd fun K hK => by
    unfold Oper.wp execOp
    simp only [ho, hx, hy, Sem.run_bind, store_rs11 hD hd hn h1, Result.andThen_ok, Sem.run_pure]
    exact hK _ _ h
end
abbrev rsZ : Array Value := #[.int .u8 0, .int .i64 0, .int .i64 0, .int .i64 0, .int .i64 0]
theorem five_atK {w : World} {p : Nat} {a0 a1 a2 a3 a4 : Value} {t : TypeId} (h : w.heap[p]? = some (.cells #[a0, a1, a2, a3, a4] t (0, 0))) :
    w.cell? ⟨p, 0, none⟩ = some a0 ∧ w.cell? ⟨p, 1, none⟩ = some a1 ∧ w.cell? ⟨p, 2, none⟩ = some a2 ∧ w.cell? ⟨p, 3, none⟩ = some a3 ∧ w.cell? ⟨p, 4, none⟩ = some a4 := by
  refine ⟨?_, ?_, ?_, ?_, ?_⟩ <;> simp [World.cell?, h]
theorem rs_one (s : Rs) : (rsC s).all (·.oneCell') = true := by simp [Value.oneCell']
set_option maxRecDepth 100000 in
set_option maxHeartbeats 6400000 in
/-- A state handed on behind closures, each of which makes the next one of it. -/
theorem gbehind_any (L : Nat) (hL : L ≤ 8) (s0 : Rs) (S : Nat → Rs) (h0 : S 0 = s0) (K : Nat → Nat) (C : Nat → Array Value) (b cap : Nat) (w : World) (hb : b < w.heap.size) (row : ∀ n, n < L → w.cell? ⟨b, n, none⟩ = some (.func (.func (K n)) #[] (C n)))
    (ent : ∀ n, n < L → ∀ (args : Array Value) (w : World), (callFunc (K n) args).run Tryz.prog w = .ok (.enter (K n) args) w)
    (hc : ∀ n, n < L → ∀ w1 : World, Below w.heap.size w w1 → Calls Tryz.prog (K n) (#[(S n).val] ++ C n) w1 fun e w' => e = .returned (S (n + 1)).val ∧ Below w1.heap.size w1 w') :
    Calls Tryz.prog 10 #[s0.val, .slice (some ⟨b, 0, none⟩) L cap] w fun e w' => e = .returned (S L).val ∧ Below w.heap.size w w' := by
  subst h0
  have hA : Below w.heap.size w ((w.alloc (.cells (rsC (S 0)) 27)).alloc (.cells rsZ 27)) := ((Below.refl _ _).alloc (Nat.le_refl _) _).alloc (by simp) _
  have z0 : ((w.alloc (.cells (rsC (S 0)) 27)).alloc (.cells rsZ 27)).heap[w.heap.size]? = some (.cells (rsC (S 0)) 27 (0, 0)) := laid _ (heap_alloc_new w _)
  have z1 : ((w.alloc (.cells (rsC (S 0)) 27)).alloc (.cells rsZ 27)).heap[w.heap.size + 1]? = some (.cells rsZ 27 (0, 0)) := by
    have := heap_alloc_new (w.alloc (.cells (rsC (S 0)) 27)) (.cells rsZ 27)
    rwa [World.size_alloc] at this
  have H := Lib.hid (And.intro z0 (And.intro z1 hA))
  have R := Lib.hid row
  have E := Lib.hid ent
  have G := Lib.hid hc
  clear z0 z1 hA row ent hc
  unfold Rs.val rsC at *
  go_enter Tryz.func10, Tryz.ntmps10
  go_wp2_with fail
  go_loopw [9] (fun i wr => ∃ n : Nat, n ≤ L ∧ i = .int .i64 (n : Int) ∧ wr.heap[w.heap.size]? = some (.cells (rsC (S n)) 27 (0, 0)) ∧ wr.heap[w.heap.size + 1]? = some (.cells rsZ 27 (0, 0)) ∧ Below w.heap.size w wr) (fun i _ => L - (intOf i).toNat)
  case atStart => exact ⟨0, Nat.zero_le _, rfl, H.out.1, H.out.2.1, H.out.2.2⟩
  case round =>
    obtain ⟨n, hn, rfl, z0, z1, hB⟩ := hrel
    by_cases hlt : n < L
    · have i1 : (n : Int) < L := by omega
      have hcell : wr.cell? ⟨b, n, none⟩ = some (.func (.func (K n)) #[] (C n)) := by rw [hB.cell hb]; exact R.out n hlt
      have ee := E.out n hlt
      have y := G.out n hlt wr hB
      have o1 := rs_one (S (n + 1))
      have HB := Lib.hid (And.intro z1 hB)
      clear z1 hB
      go_wp2_with (refine at_load_rs11 rfl _ rfl _ rfl z0 rfl ?_)
      (with_reducible refine y.mono ?_)
      rintro e w2 ⟨rfl, hB2⟩
      have z0' := kept z0 hB2
      have z1' := kept HB.out.1 hB2
      have hBw := HB.out.2.trans (hB2.mono HB.out.2.size)
      have E0 := setRow_heap w2 w.heap.size _ (rsC (S (n + 1))) _ _ z0'
      have E1 := (setRow_other w2 w.heap.size (w.heap.size + 1) (rsC (S (n + 1))) (by omega)).trans z1'
      have EB := below_setRow hBw (Nat.le_refl _) (rsC (S (n + 1)))
      have EE := Lib.hid (And.intro E0 (And.intro E1 EB))
      clear hcell z0 hB2 z1' hBw E0 E1 EB
      unfold rsC at *
      go_wp2_with (refine at_store_rs11 rfl _ _ rfl _ rfl rfl z0' rfl rfl o1 ?_)
      go_roundw
      case rel => exact ⟨n + 1, by omega, by go_num, EE.out.1, EE.out.2.1, EE.out.2.2⟩
      case measure => simp [intOf]; omega
    · obtain rfl : n = L := by omega
      have o1 := rs_one (S n)
      have E1 := setRow_heap wr (w.heap.size + 1) _ (rsC (S n)) _ _ z1
      have EB := below_setRow hB (show w.heap.size ≤ w.heap.size + 1 by omega) (rsC (S n))
      have EE := Lib.hid (And.intro E1 EB)
      clear E1 EB hB
      unfold rsC at *
      go_wp2_with (first | (refine at_load_rs11 rfl _ rfl _ rfl z0 rfl ?_) | (refine at_store_rs11 rfl _ _ rfl _ rfl rfl z1 rfl rfl o1 ?_))
      obtain ⟨q0, q1, q2, q3, q4⟩ := five_atK EE.out.1
      refine bodyPost_ret (v := .agg #[.int .u8 (S n).reg, .int .i64 (S n).host, .int .i64 (S n).peer, .int .i64 (S n).burst, .int .i64 (S n).next]) ?_ rfl ?_
      · simp [results, Tryz.results10, go_sem, q0, q1, q2, q3, q4]
      · exact ⟨rfl, EE.out.2⟩
end Go.Proofs.YtfangllkfcmefaaGreat.W
