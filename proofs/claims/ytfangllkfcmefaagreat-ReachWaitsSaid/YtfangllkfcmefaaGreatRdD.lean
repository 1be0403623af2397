/- Layer 11's own code, walked: a state behind one, two, three closures; an answer, a request for fewer questions. -/
import Derived.Test.YtfangllkfcmefaaGreatRdC
import Derived.Deep.RegionHeld3
import Derived.RegionTactic
namespace Go.Proofs.YtfangllkfcmefaaGreat.W
open Go.RowKit Go.Sort
set_option linter.unusedVariables false
set_option linter.unusedSimpArgs false
/-- What a function does that makes y of x. -/
def Makes (k : Nat) (x y : Rs) (c : Array Value) (w : World) : Prop :=
  (∀ (args : Array Value) (w : World), (callFunc k args).run Tryz.prog w = .ok (.enter k args) w) ∧
    ∀ w1 : World, Below w.heap.size w w1 → Calls Tryz.prog k (#[x.val] ++ c) w1 fun e w' => e = .returned y.val ∧ Below w1.heap.size w1 w'
theorem gbehind1 (s0 s1 : Rs) (k1 : Nat) (c1 : Array Value) (b cap : Nat) {t : TypeId} (w : World) (hb : w.heap[b]? = some (.cells #[.func (.func k1) #[] c1] t (0, 0))) (h1 : Makes k1 s0 s1 c1 w) :
    Calls Tryz.prog 10 #[s0.val, .slice (some ⟨b, 0, none⟩) 1 cap] w fun e w' => e = .returned s1.val ∧ Below w.heap.size w w' := by
  refine gbehind_any 1 (by decide) s0 (fun n => match n with | 0 => s0 | _ => s1) rfl (fun _ => k1) (fun _ => c1) b cap w (Array.getElem?_eq_some_iff.1 hb).1 ?_ ?_ ?_
  · intro n hn
    obtain rfl : n = 0 := by omega
    simp [World.cell?, hb]
  · intro n hn
    exact h1.1
  · intro n hn
    obtain rfl : n = 0 := by omega
    exact h1.2
theorem gbehind2 (s0 s1 s2 : Rs) (k1 k2 : Nat) (c1 c2 : Array Value) (b cap : Nat) {t : TypeId} (w : World) (hb : w.heap[b]? = some (.cells #[.func (.func k1) #[] c1, .func (.func k2) #[] c2] t (0, 0))) (h1 : Makes k1 s0 s1 c1 w) (h2 : Makes k2 s1 s2 c2 w) :
    Calls Tryz.prog 10 #[s0.val, .slice (some ⟨b, 0, none⟩) 2 cap] w fun e w' => e = .returned s2.val ∧ Below w.heap.size w w' := by
  refine gbehind_any 2 (by decide) s0 (fun n => match n with | 0 => s0 | 1 => s1 | _ => s2) rfl (fun n => match n with | 0 => k1 | _ => k2) (fun n => match n with | 0 => c1 | _ => c2) b cap w (Array.getElem?_eq_some_iff.1 hb).1 ?_ ?_ ?_
  · intro n hn
    match n, hn with
    | 0, _ | 1, _ => simp [World.cell?, hb]
  · intro n hn
    match n, hn with
    | 0, _ => exact h1.1
    | 1, _ => exact h2.1
  · intro n hn
    match n, hn with
    | 0, _ => exact h1.2
    | 1, _ => exact h2.2
theorem gbehind3 (s0 s1 s2 s3 : Rs) (k1 k2 k3 : Nat) (c1 c2 c3 : Array Value) (b cap : Nat) {t : TypeId} (w : World) (hb : w.heap[b]? = some (.cells #[.func (.func k1) #[] c1, .func (.func k2) #[] c2, .func (.func k3) #[] c3] t (0, 0))) (h1 : Makes k1 s0 s1 c1 w) (h2 : Makes k2 s1 s2 c2 w) (h3 : Makes k3 s2 s3 c3 w) :
    Calls Tryz.prog 10 #[s0.val, .slice (some ⟨b, 0, none⟩) 3 cap] w fun e w' => e = .returned s3.val ∧ Below w.heap.size w w' := by
  refine gbehind_any 3 (by decide) s0 (fun n => match n with | 0 => s0 | 1 => s1 | 2 => s2 | _ => s3) rfl (fun n => match n with | 0 => k1 | 1 => k2 | _ => k3) (fun n => match n with | 0 => c1 | 1 => c2 | _ => c3) b cap w (Array.getElem?_eq_some_iff.1 hb).1 ?_ ?_ ?_
  · intro n hn
    match n, hn with
    | 0, _ | 1, _ | 2, _ => simp [World.cell?, hb]
  · intro n hn
    match n, hn with
    | 0, _ => exact h1.1
    | 1, _ => exact h2.1
    | 2, _ => exact h3.1
  · intro n hn
    match n, hn with
    | 0, _ => exact h1.2
    | 1, _ => exact h2.2
    | 2, _ => exact h3.2
theorem makes_answering (s : Rs) (st : s.Typed) (w : World) : Makes 32 s (Rs.mk (if s.reg % 2 = 0 then s.reg + 1 else s.reg) s.host s.peer s.burst s.next) #[] w :=
  ⟨Tryz.call32, fun w1 _ => ganswering_any s st w1⟩
theorem makes_asking (s : Rs) (st : s.Typed) (w : World) : Makes 11 s (Rs.mk (s.reg * 2 % 256) s.host s.peer s.burst s.next) #[] w :=
  ⟨Tryz.call11, fun w1 _ => gasking_any s st w1⟩
theorem makes_hosting (p : Pm) (s : Rs) (n : Int) (bp bn : Nat) (w : World) (hp : w.heap[bp]? = some (.cells (pmC p) 24 (0, 0))) (hn : w.heap[bn]? = some (.cells #[.int .i64 n] 3 (0, 0))) : Makes 68 s (Rs.mk s.reg (heldI p n) s.peer s.burst s.next) #[.pointer (some ⟨bp, 0, none⟩), .pointer (some ⟨bn, 0, none⟩)] w :=
  ⟨Tryz.call68, fun w1 h => ghost1 p s n bp bn w1 (kept hp h) (kept hn h)⟩
theorem makes_peering (p : Pm) (s : Rs) (n : Int) (bp bn : Nat) (w : World) (hp : w.heap[bp]? = some (.cells (pmC p) 24 (0, 0))) (hn : w.heap[bn]? = some (.cells #[.int .i64 n] 3 (0, 0))) : Makes 70 s (Rs.mk s.reg s.host (heldI p n) s.burst s.next) #[.pointer (some ⟨bp, 0, none⟩), .pointer (some ⟨bn, 0, none⟩)] w :=
  ⟨Tryz.call70, fun w1 h => gpeer1 p s n bp bn w1 (kept hp h) (kept hn h)⟩
theorem makes_bursting (s : Rs) (n : Int) (bn : Nat) (w : World) (hn : w.heap[bn]? = some (.cells #[.int .i64 n] 3 (0, 0))) : Makes 23 s (Rs.mk s.reg s.host s.peer n s.next) #[.pointer (some ⟨bn, 0, none⟩)] w :=
  ⟨Tryz.call23, fun w1 h => gburst1 s n bn w1 (kept hn h)⟩
theorem makes_pausing1 (s : Rs) (now x : Int) (n0 : -9223372036854775808 ≤ now) (n1 : now ≤ 9223372036854775807) (x0 : -9223372036854775808 ≤ x) (x1 : x ≤ 9223372036854775807) (bn bt bx cap : Nat) (w : World) (hn : w.heap[bn]? = some (.cells #[.int .i64 now] 2 (0, 0))) (ht : w.heap[bt]? = some (.cells #[.slice (some ⟨bx, 0, none⟩) 1 cap] 61 (0, 0))) {t : TypeId} (hx : w.heap[bx]? = some (.cells #[.int .i64 x] t (0, 0))) : Makes 24 s (Rs.mk s.reg s.host s.peer s.burst (addI now x)) #[.pointer (some ⟨bn, 0, none⟩), .pointer (some ⟨bt, 0, none⟩)] w :=
  ⟨Tryz.call24, fun w1 h => gpause1 s now (addI now x) bn bt bx 1 cap w1 (kept hn h) (kept ht h) fun w2 h2 => gafter1 now x bx cap n0 n1 x0 x1 w2 (cell_of_one (kept (kept hx h) h2))⟩
theorem two_cells {w : World} {b : Nat} {x y : Value} {t : TypeId} (h : w.heap[b]? = some (.cells #[x, y] t (0, 0))) : w.cell? ⟨b, 0, none⟩ = some x ∧ w.cell? ⟨b, 1, none⟩ = some y := by constructor <;> simp [World.cell?, h]
theorem makes_pausing2 (s : Rs) (now x y : Int) (n0 : -9223372036854775808 ≤ now) (n1 : now ≤ 9223372036854775807) (x0 : -9223372036854775808 ≤ x) (x1 : x ≤ 9223372036854775807) (y0 : -9223372036854775808 ≤ y) (y1 : y ≤ 9223372036854775807) (bn bt bx cap : Nat) (w : World) (hn : w.heap[bn]? = some (.cells #[.int .i64 now] 2 (0, 0))) (ht : w.heap[bt]? = some (.cells #[.slice (some ⟨bx, 0, none⟩) 2 cap] 61 (0, 0))) {t : TypeId} (hx : w.heap[bx]? = some (.cells #[.int .i64 x, .int .i64 y] t (0, 0))) : Makes 24 s (Rs.mk s.reg s.host s.peer s.burst (addI (addI now x) y)) #[.pointer (some ⟨bn, 0, none⟩), .pointer (some ⟨bt, 0, none⟩)] w :=
  ⟨Tryz.call24, fun w1 h => gpause1 s now (addI (addI now x) y) bn bt bx 2 cap w1 (kept hn h) (kept ht h) fun w2 h2 => gafter2 now x y bx cap n0 n1 x0 x1 y0 y1 w2 (two_cells (kept (kept hx h) h2)).1 (two_cells (kept (kept hx h) h2)).2⟩
theorem seventeen {w : World} {b c : Nat} {p : Pm} {s : Rs} {t u : TypeId} (h : w.heap[b]? = some (.cells (pmC p) t (0, 0))) (g : w.heap[c]? = some (.cells (rsC s) u (0, 0))) :
    w.cell? ⟨b, 0, none⟩ = some (.int .i64 p.step) ∧ w.cell? ⟨b, 1, none⟩ = some (.int .i64 p.watch) ∧ w.cell? ⟨b, 2, none⟩ = some (.int .i64 p.panic) ∧ w.cell? ⟨b, 3, none⟩ = some (.int .i64 p.maxrate) ∧ w.cell? ⟨b, 4, none⟩ = some (.int .i64 p.phi) ∧ w.cell? ⟨b, 5, none⟩ = some (.int .i64 p.maxdist) ∧ w.cell? ⟨b, 6, none⟩ = some (.int .i64 p.gate) ∧ w.cell? ⟨b, 7, none⟩ = some (.int .i64 p.minpoll) ∧ w.cell? ⟨b, 8, none⟩ = some (.int .i64 p.maxpoll) ∧ w.cell? ⟨b, 9, none⟩ = some (.int .i64 p.burst) ∧ w.cell? ⟨b, 10, none⟩ = some (.int .i64 p.minsane) ∧ w.cell? ⟨b, 11, none⟩ = some (.int .i64 p.minleft) ∧ w.cell? ⟨c, 0, none⟩ = some (.int .u8 s.reg) ∧ w.cell? ⟨c, 1, none⟩ = some (.int .i64 s.host) ∧ w.cell? ⟨c, 2, none⟩ = some (.int .i64 s.peer) ∧ w.cell? ⟨c, 3, none⟩ = some (.int .i64 s.burst) ∧ w.cell? ⟨c, 4, none⟩ = some (.int .i64 s.next) := by
  refine ⟨?_, ?_, ?_, ?_, ?_, ?_, ?_, ?_, ?_, ?_, ?_, ?_, ?_, ?_, ?_, ?_, ?_⟩ <;> first | (simp [World.cell?, h]; done) | simp [World.cell?, g]
theorem five_in {w : World} {p : Nat} {a0 a1 a2 a3 a4 : Value} {t : TypeId} (h : w.heap[p]? = some (.cells #[a0, a1, a2, a3, a4] t (0, 0))) :
    w.cell? ⟨p, 0, none⟩ = some a0 ∧ w.cell? ⟨p, 1, none⟩ = some a1 ∧ w.cell? ⟨p, 2, none⟩ = some a2 ∧ w.cell? ⟨p, 3, none⟩ = some a3 ∧ w.cell? ⟨p, 4, none⟩ = some a4 := by
  refine ⟨?_, ?_, ?_, ?_, ?_⟩ <;> simp [World.cell?, h]
theorem five_thaw {w : World} {p : Nat} {a0 a1 a2 a3 a4 : Value} {t : TypeId} (h : w.heap[p]? = some (.cells #[a0, a1, a2, a3, a4] t (0, 0))) (j : Nat) : w.frozen? ⟨p, j, none⟩ = false := by
  simp [World.frozen?, h]
/-- Five cells, written. -/
def five (w : World) (b : Nat) (a0 a1 a2 a3 a4 : Value) : World := (((((w.setCell ⟨b, 0, none⟩ a0).setCell ⟨b, 1, none⟩ a1).setCell ⟨b, 2, none⟩ a2).setCell ⟨b, 3, none⟩ a3).setCell ⟨b, 4, none⟩ a4)
theorem five_block {w : World} {p : Nat} {o0 o1 o2 o3 o4 : Value} {t : TypeId} (a0 a1 a2 a3 a4 : Value) (h : w.heap[p]? = some (.cells #[o0, o1, o2, o3, o4] t (0, 0))) : (five w p a0 a1 a2 a3 a4).heap[p]? = some (.cells #[a0, a1, a2, a3, a4] t (0, 0)) :=
  block_set 4 a4 (block_set 3 a3 (block_set 2 a2 (block_set 1 a1 (block_set 0 a0 h))))
theorem five_far {w : World} {p k : Nat} (a0 a1 a2 a3 a4 : Value) (hk : k ≠ p) : (five w p a0 a1 a2 a3 a4).heap[k]? = w.heap[k]? := by
  unfold five
  rw [block_far _ _ hk, block_far _ _ hk, block_far _ _ hk, block_far _ _ hk, block_far _ _ hk]
theorem five_below {w0 w : World} {p : Nat} (a0 a1 a2 a3 a4 : Value) (h : Below w0.heap.size w0 w) (hp : w0.heap.size ≤ p) : Below w0.heap.size w0 (five w p a0 a1 a2 a3 a4) := by
  unfold five
  exact ((((h.setCell hp a0).setCell hp a1).setCell hp a2).setCell hp a3).setCell hp a4
theorem far5 {v : World} {r k : Nat} {x : Option Obj} (a0 a1 a2 a3 a4 : Value) (hk : k ≠ r) (h : v.heap[k]? = x) : (((((v.setCell ⟨r, 0, none⟩ a0).setCell ⟨r, 1, none⟩ a1).setCell ⟨r, 2, none⟩ a2).setCell ⟨r, 3, none⟩ a3).setCell ⟨r, 4, none⟩ a4).heap[k]? = x := (five_far a0 a1 a2 a3 a4 hk).trans h
theorem new5 {v : World} {r : Nat} {o0 o1 o2 o3 o4 : Value} {t : TypeId} (a0 a1 a2 a3 a4 : Value) (h : v.heap[r]? = some (.cells #[o0, o1, o2, o3, o4] t (0, 0))) : (((((v.setCell ⟨r, 0, none⟩ a0).setCell ⟨r, 1, none⟩ a1).setCell ⟨r, 2, none⟩ a2).setCell ⟨r, 3, none⟩ a3).setCell ⟨r, 4, none⟩ a4).heap[r]? = some (.cells #[a0, a1, a2, a3, a4] t (0, 0)) := five_block a0 a1 a2 a3 a4 h
theorem below5 {w0 v : World} {r : Nat} (a0 a1 a2 a3 a4 : Value) (h : Below w0.heap.size w0 v) (hp : w0.heap.size ≤ r) : Below w0.heap.size w0 (((((v.setCell ⟨r, 0, none⟩ a0).setCell ⟨r, 1, none⟩ a1).setCell ⟨r, 2, none⟩ a2).setCell ⟨r, 3, none⟩ a3).setCell ⟨r, 4, none⟩ a4) := five_below a0 a1 a2 a3 a4 h hp
/-- A state's cells, written anew. -/
theorem fin5 {w0 w : World} {b : Nat} (s : Rs) {t : TypeId} (h : w.heap[b]? = some (.cells rsZ t (0, 0))) (g : Below w0.heap.size w0 w) (hb : w0.heap.size ≤ b) :
    (w.setRow b (rsC s)).heap[b]? = some (.cells (rsC s) t (0, 0)) ∧ Below w0.heap.size w0 (w.setRow b (rsC s)) :=
  ⟨setRow_heap w b _ (rsC s) _ _ h, below_setRow g hb (rsC s)⟩
end Go.Proofs.YtfangllkfcmefaaGreat.W
