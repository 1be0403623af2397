/- The document's own answers of layer 10, walked: faults. -/
import Derived.Test.YtfanijdemephoaaStC
import Derived.Laws.AppendOwn
import Derived.Test.YtfanijdemephoaaSlA
namespace Go.Proofs.Ytfanijdemephoaa.W
open Go.RowKit Go.Sort
set_option linter.unusedVariables false
set_option linter.unusedSimpArgs false
theorem own_num {f l h : Nat} (e : wiE f l h = 0) : isN f ∧ V l ≤ V f ∧ V f ≤ V h := by
  unfold wiE at e
  split at e
  · omega
  · rename_i e0
    split at e
    · omega
    · split at e
      · omega
      · split at e
        · cases e
        · refine ⟨?_, by omega, by omega⟩
          have e0 : ofE f = 0 := by omega
          unfold ofE at e0
          split at e0
          · cases e0
          · unfold isN; omega
theorem twelve_at {w : World} {p : Nat} {a0 a1 a2 a3 a4 a5 a6 a7 a8 a9 a10 a11 : Value} {t : TypeId} (h : w.heap[p]? = some (.cells #[a0, a1, a2, a3, a4, a5, a6, a7, a8, a9, a10, a11] t (0, 0))) :
    w.cell? ⟨p, 0, none⟩ = some a0 ∧ w.cell? ⟨p, 1, none⟩ = some a1 ∧ w.cell? ⟨p, 2, none⟩ = some a2 ∧ w.cell? ⟨p, 3, none⟩ = some a3 ∧ w.cell? ⟨p, 4, none⟩ = some a4 ∧ w.cell? ⟨p, 5, none⟩ = some a5 ∧ w.cell? ⟨p, 6, none⟩ = some a6 ∧ w.cell? ⟨p, 7, none⟩ = some a7 ∧ w.cell? ⟨p, 8, none⟩ = some a8 ∧ w.cell? ⟨p, 9, none⟩ = some a9 ∧ w.cell? ⟨p, 10, none⟩ = some a10 ∧ w.cell? ⟨p, 11, none⟩ = some a11 := by
  refine ⟨?_, ?_, ?_, ?_, ?_, ?_, ?_, ?_, ?_, ?_, ?_, ?_⟩ <;> simp [World.cell?, h]
theorem leq_is {a b : Nat} (ha : isN a) (hb : isN b) : (FloatKind.f64.format.order a b == some .lt || FloatKind.f64.format.order a b == some .eq) = decide (V a ≤ V b) := by
  rcases Int.lt_trichotomy (V a) (V b) with h | h | h
  · rw [order_lt ha hb h, decide_eq_true (by omega)]; rfl
  · rw [order_eq ha hb h, decide_eq_true (by omega)]; rfl
  · rw [order_gt ha hb h, decide_eq_false (by omega)]; rfl
set_option maxRecDepth 100000 in
set_option maxHeartbeats 6400000 in
theorem rfield_any (c : Cf) (t : c.Typed) (k : Nat) (k0 : 1 ≤ k) (k1 : k ≤ 12) (w : World) : Calls Try.prog 16 #[c.val, .int .i64 k] w fun e w' => e = .returned (.int .i64 (fieldE c k)) ∧ Below w.heap.size w w' := by
  have y := rown_any c t k k0 k1 (w.alloc (.cells #[.float .f64 c.step, .float .f64 c.watch, .float .f64 c.panic, .float .f64 c.maxrate, .float .f64 c.phi, .float .f64 c.maxdist, .float .f64 c.gate, .int .i64 c.minpoll, .int .i64 c.maxpoll, .int .i64 c.burst, .int .i64 c.minsane, .int .i64 c.minleft] 33))
  have y1 : ∀ w' : World, Calls Try.prog 48 #[c.val, .int .i64 1] w' fun e w'' => e = .returned (.int .i64 (ownE c 1)) ∧ Below w'.heap.size w' w'' := rown_any c t 1 (by decide) (by decide)
  have y8 : ∀ w' : World, Calls Try.prog 48 #[c.val, .int .i64 8] w' fun e w'' => e = .returned (.int .i64 (ownE c 8)) ∧ Below w'.heap.size w' w'' := rown_any c t 8 (by decide) (by decide)
  have hA : Below w.heap.size w (w.alloc (.cells #[.float .f64 c.step, .float .f64 c.watch, .float .f64 c.panic, .float .f64 c.maxrate, .float .f64 c.phi, .float .f64 c.maxdist, .float .f64 c.gate, .int .i64 c.minpoll, .int .i64 c.maxpoll, .int .i64 c.burst, .int .i64 c.minsane, .int .i64 c.minleft] 33)) := Below.alloc (Below.refl _ _) (Nat.le_refl _) _
  have hx := heap_alloc_new w (.cells #[.float .f64 c.step, .float .f64 c.watch, .float .f64 c.panic, .float .f64 c.maxrate, .float .f64 c.phi, .float .f64 c.maxdist, .float .f64 c.gate, .int .i64 c.minpoll, .int .i64 c.maxpoll, .int .i64 c.burst, .int .i64 c.minsane, .int .i64 c.minleft] 33)
  have lx := (Array.getElem?_eq_some_iff.1 hx).1
  obtain ⟨v, hv⟩ : ∃ v : Int, v = fieldE c k := ⟨_, rfl⟩
  rw [← hv]
  unfold Cf.val at *
  clear t
  by_cases h0 : ownE c k = 0
  · rw [h0] at y
    by_cases h3 : k = 3
    · subst h3
      rw [show ((3 : Nat) : Int) = 3 from rfl] at y ⊢
      obtain ⟨p1, p2, p3⟩ := own_num (f := c.panic) (l := 4607182418800017408) (h := 4681608360884174848) h0
      by_cases h1 : ownE c 1 = 0
      · obtain ⟨s1, s2, s3⟩ := own_num (f := c.step) (l := 4562254508917369340) (h := 4621819117588971520) h1
        rw [h1] at y1
        have hle := leq_is p1 s1
        by_cases hc : V c.panic ≤ V c.step
        · have hv2 : v = 100 := by rw [hv]; unfold fieldE; rw [if_neg (by omega), if_pos ⟨rfl, h1, hc⟩]
          rw [decide_eq_true hc] at hle
          subst hv2
          clear hv h0 h1 hc p1 p2 p3 s1 s2 s3
          go_enter Try.func16, Try.ntmps16
          go_wp2_with fail
          (with_reducible refine y.mono ?_)
          rintro e w1 ⟨rfl, hB1⟩
          have hx1 := (hB1.block _ lx).trans hx
          have lx1 := (Array.getElem?_eq_some_iff.1 hx1).1
          obtain ⟨a0, a1, a2, a3, a4, a5, a6, a7, a8, a9, a10, a11⟩ := twelve_at hx1
          have hB1' := hA.trans (hB1.mono hA.size)
          go_wp2_with fail
          (with_reducible refine (y1 w1).mono ?_)
          rintro e w2 ⟨rfl, hB2⟩
          have hx2 := (hB2.block _ lx1).trans hx1
          have lx2 := (Array.getElem?_eq_some_iff.1 hx2).1
          obtain ⟨b0, b1, b2, b3, b4, b5, b6, b7, b8, b9, b10, b11⟩ := twelve_at hx2
          have hB2' := hB1'.trans (hB2.mono hB1'.size)
          clear hx hx1 hx2 a0 a1 a2 a3 a4 a5 a6 a7 a8 a9 a10 a11
          go_wp2_with fail
          go_ret
          exact ⟨rfl, hB2'⟩
        · have hv2 : v = 0 := by rw [hv]; unfold fieldE; rw [if_neg (by omega), if_neg (fun h => hc h.2.2), if_neg (by omega)]
          rw [decide_eq_false hc] at hle
          subst hv2
          clear hv h0 h1 hc p1 p2 p3 s1 s2 s3
          go_enter Try.func16, Try.ntmps16
          go_wp2_with fail
          (with_reducible refine y.mono ?_)
          rintro e w1 ⟨rfl, hB1⟩
          have hx1 := (hB1.block _ lx).trans hx
          have lx1 := (Array.getElem?_eq_some_iff.1 hx1).1
          obtain ⟨a0, a1, a2, a3, a4, a5, a6, a7, a8, a9, a10, a11⟩ := twelve_at hx1
          have hB1' := hA.trans (hB1.mono hA.size)
          go_wp2_with fail
          (with_reducible refine (y1 w1).mono ?_)
          rintro e w2 ⟨rfl, hB2⟩
          have hx2 := (hB2.block _ lx1).trans hx1
          have lx2 := (Array.getElem?_eq_some_iff.1 hx2).1
          obtain ⟨b0, b1, b2, b3, b4, b5, b6, b7, b8, b9, b10, b11⟩ := twelve_at hx2
          have hB2' := hB1'.trans (hB2.mono hB1'.size)
          clear hx hx1 hx2 a0 a1 a2 a3 a4 a5 a6 a7 a8 a9 a10 a11
          go_wp2_with fail
          go_ret
          exact ⟨rfl, hB2'⟩
      · have hv2 : v = 0 := by rw [hv]; unfold fieldE; rw [if_neg (by omega), if_neg (fun h => h1 h.2.1), if_neg (by omega)]
        subst hv2
        clear hv h0 p1 p2 p3
        generalize ownE c 1 = e1 at *
        go_enter Try.func16, Try.ntmps16
        go_wp2_with fail
        (with_reducible refine y.mono ?_)
        rintro e w1 ⟨rfl, hB1⟩
        have hx1 := (hB1.block _ lx).trans hx
        have lx1 := (Array.getElem?_eq_some_iff.1 hx1).1
        obtain ⟨a0, a1, a2, a3, a4, a5, a6, a7, a8, a9, a10, a11⟩ := twelve_at hx1
        have hB1' := hA.trans (hB1.mono hA.size)
        go_wp2_with fail
        (with_reducible refine (y1 w1).mono ?_)
        rintro e w2 ⟨rfl, hB2⟩
        have hx2 := (hB2.block _ lx1).trans hx1
        have lx2 := (Array.getElem?_eq_some_iff.1 hx2).1
        obtain ⟨b0, b1, b2, b3, b4, b5, b6, b7, b8, b9, b10, b11⟩ := twelve_at hx2
        have hB2' := hB1'.trans (hB2.mono hB1'.size)
        clear hx hx1 hx2 a0 a1 a2 a3 a4 a5 a6 a7 a8 a9 a10 a11
        go_wp2_with fail
        go_ret
        exact ⟨rfl, hB2'⟩
    · by_cases h9 : k = 9
      · subst h9
        rw [show ((9 : Nat) : Int) = 9 from rfl] at y ⊢
        by_cases h8 : ownE c 8 = 0
        · rw [h8] at y8
          by_cases hc : c.maxpoll < c.minpoll
          · have hv2 : v = 100 := by rw [hv]; unfold fieldE; rw [if_neg (by omega), if_neg (by omega), if_pos ⟨rfl, h8, hc⟩]
            subst hv2
            clear hv h0 h8
            go_enter Try.func16, Try.ntmps16
            go_wp2_with fail
            (with_reducible refine y.mono ?_)
            rintro e w1 ⟨rfl, hB1⟩
            have hx1 := (hB1.block _ lx).trans hx
            have lx1 := (Array.getElem?_eq_some_iff.1 hx1).1
            obtain ⟨a0, a1, a2, a3, a4, a5, a6, a7, a8, a9, a10, a11⟩ := twelve_at hx1
            have hB1' := hA.trans (hB1.mono hA.size)
            go_wp2_with fail
            (with_reducible refine (y8 w1).mono ?_)
            rintro e w2 ⟨rfl, hB2⟩
            have hx2 := (hB2.block _ lx1).trans hx1
            have lx2 := (Array.getElem?_eq_some_iff.1 hx2).1
            obtain ⟨b0, b1, b2, b3, b4, b5, b6, b7, b8, b9, b10, b11⟩ := twelve_at hx2
            have hB2' := hB1'.trans (hB2.mono hB1'.size)
            clear hx hx1 hx2 a0 a1 a2 a3 a4 a5 a6 a7 a8 a9 a10 a11
            go_wp2_with fail
            go_ret
            exact ⟨rfl, hB2'⟩
          · have hv2 : v = 0 := by rw [hv]; unfold fieldE; rw [if_neg (by omega), if_neg (by omega), if_neg (fun h => hc h.2.2)]
            subst hv2
            clear hv h0 h8
            go_enter Try.func16, Try.ntmps16
            go_wp2_with fail
            (with_reducible refine y.mono ?_)
            rintro e w1 ⟨rfl, hB1⟩
            have hx1 := (hB1.block _ lx).trans hx
            have lx1 := (Array.getElem?_eq_some_iff.1 hx1).1
            obtain ⟨a0, a1, a2, a3, a4, a5, a6, a7, a8, a9, a10, a11⟩ := twelve_at hx1
            have hB1' := hA.trans (hB1.mono hA.size)
            go_wp2_with fail
            (with_reducible refine (y8 w1).mono ?_)
            rintro e w2 ⟨rfl, hB2⟩
            have hx2 := (hB2.block _ lx1).trans hx1
            have lx2 := (Array.getElem?_eq_some_iff.1 hx2).1
            obtain ⟨b0, b1, b2, b3, b4, b5, b6, b7, b8, b9, b10, b11⟩ := twelve_at hx2
            have hB2' := hB1'.trans (hB2.mono hB1'.size)
            clear hx hx1 hx2 a0 a1 a2 a3 a4 a5 a6 a7 a8 a9 a10 a11
            go_wp2_with fail
            go_ret
            exact ⟨rfl, hB2'⟩
        · have hv2 : v = 0 := by rw [hv]; unfold fieldE; rw [if_neg (by omega), if_neg (by omega), if_neg (fun h => h8 h.2.1)]
          subst hv2
          clear hv h0
          generalize ownE c 8 = e8 at *
          go_enter Try.func16, Try.ntmps16
          go_wp2_with fail
          (with_reducible refine y.mono ?_)
          rintro e w1 ⟨rfl, hB1⟩
          have hx1 := (hB1.block _ lx).trans hx
          have lx1 := (Array.getElem?_eq_some_iff.1 hx1).1
          obtain ⟨a0, a1, a2, a3, a4, a5, a6, a7, a8, a9, a10, a11⟩ := twelve_at hx1
          have hB1' := hA.trans (hB1.mono hA.size)
          go_wp2_with fail
          (with_reducible refine (y8 w1).mono ?_)
          rintro e w2 ⟨rfl, hB2⟩
          have hx2 := (hB2.block _ lx1).trans hx1
          have lx2 := (Array.getElem?_eq_some_iff.1 hx2).1
          obtain ⟨b0, b1, b2, b3, b4, b5, b6, b7, b8, b9, b10, b11⟩ := twelve_at hx2
          have hB2' := hB1'.trans (hB2.mono hB1'.size)
          clear hx hx1 hx2 a0 a1 a2 a3 a4 a5 a6 a7 a8 a9 a10 a11
          go_wp2_with fail
          go_ret
          exact ⟨rfl, hB2'⟩
      · have hv2 : v = 0 := by rw [hv]; unfold fieldE; rw [if_neg (by omega), if_neg (by omega), if_neg (by omega)]
        subst hv2
        have e3 : ((k : Int) == 3) = false := by simp; omega
        have e9 : ((k : Int) == 9) = false := by simp; omega
        have e3' : ¬ (k : Int) = 3 := by omega
        have e9' : ¬ (k : Int) = 9 := by omega
        clear hv h0 h3 h9
        go_enter Try.func16, Try.ntmps16
        go_wp2_with fail
        (with_reducible refine y.mono ?_)
        rintro e w1 ⟨rfl, hB1⟩
        go_wp2_with fail
        go_ret
        exact ⟨rfl, hA.trans (hB1.mono hA.size)⟩
  · have hv2 : v = ownE c k := by rw [hv]; unfold fieldE; rw [if_pos h0]
    rw [← hv2] at y h0
    have h0b : (v == 0) = false := by simpa using h0
    clear hv hv2
    go_enter Try.func16, Try.ntmps16
    go_wp2_with fail
    (with_reducible refine y.mono ?_)
    rintro e w1 ⟨rfl, hB1⟩
    go_wp2_with fail
    go_ret
    exact ⟨rfl, hA.trans (hB1.mono hA.size)⟩
end Go.Proofs.Ytfanijdemephoaa.W
