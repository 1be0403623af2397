/- Layer 9's own code, walked: a text written to the disk. -/
import Derived.Test.YtcfdggeoecdnnaaDrG
namespace Go.Proofs.Ytcfdggeoecdnnaa.W
open Go.RowKit Go.Sort
set_option linter.unusedVariables false
set_option linter.unusedSimpArgs false
/-- So many bytes written, as far as there is power. -/
def wW (d : Dk) (ws : List (Nat × UInt8)) : Dk :=
  if d.off then d else if d.left < 0 then ⟨puts d.s ws, d.left, false⟩ else if (ws.length : Int) ≤ d.left then ⟨puts d.s ws, d.left - ws.length, false⟩ else ⟨puts d.s (ws.take d.left.toNat), 0, true⟩
def wE (d : Dk) (ws : List (Nat × UInt8)) : Int := if d.off then 90 else if d.left < 0 ∨ (ws.length : Int) ≤ d.left then 0 else 90
theorem puts_one (s : List UInt8) (at_ : Nat) (l : List UInt8) (k : Nat) (hk : k < l.length) : puts s (wsFrom at_ (l.take (k + 1))) = (puts s (wsFrom at_ (l.take k))).set (at_ + k) (b8 (byteAt l k)) := by
  rw [take_byte l k hk, wsFrom_append, puts_append]
  have : (l.take k).length = k := by rw [List.length_take]; omega
  rw [this]
  rfl
set_option maxHeartbeats 6400000 in
theorem write_free {F : Nat → Prop} {p : Nat} {d : Dk} (ok : d.Ok) (ho : d.off = false) (hl : d.left = -1) (at_ : Nat) (s : List UInt8) (hs : at_ + s.length ≤ 32) (w : World) (h : DkIn F w p d) :
    Calls Try.prog 17 #[.pointer (some ⟨p, 0, none⟩), .int .i64 at_, .string (bs s)] w fun e w' => e = .returned (.int .i64 0) ∧ DkIn (Gr F w w') w' p ⟨puts d.s (wsFrom at_ s), -1, false⟩ ∧ Touch F w w' := by
  obtain ⟨S, L, o⟩ := d
  simp only [] at ho hl
  subst ho hl
  have hS := ok.s
  simp only [] at hS
  have dd := kdead_w ok (w.alloc (.cells #[.int .i64 0] 26)) (h.kept (Touch.of_below (fun _ => False) (below_one' w _)) (fun _ _ e => e))
  simp only [] at dd
  obtain ⟨h1, h2, h3⟩ := h
  have hp := h2 p h1
  have h4 := kept_block h3 (below_one' w (.cells #[.int .i64 0] 26))
  have h5 := heap_alloc_new w (.cells #[.int .i64 0] 26)
  have hmf : ∀ (fn : Fn) (first cap : Array Value) (w : World), (Instr.makeFunc fn first cap).run Try.prog w = .ok (.func fn first cap) w := fun _ _ _ _ => rfl
  go_enter_defers Try.func17, Try.ntmps17
  go_wp2_with fail
  (with_reducible refine dd.mono ?_)
  rintro e w' ⟨rfl, rfl⟩
  go_wp2_with fail
  have b1 := below_one' w (.cells #[.int .i64 0] 26)
  clear h3 dd
  generalize w.alloc (.cells #[.int .i64 0] 26) = w1 at *
  go_loopw [24] (fun i wr => ∃ k : Nat, k ≤ s.length ∧ i = .int .i64 k ∧ wr.heap[p]? = some (.cells (dkC ⟨puts S (wsFrom at_ (s.take k)), -1, false⟩).toArray 45 (0, 0)) ∧ wr.heap[w.heap.size]? = some (.cells #[.int .i64 0] 26 (0, 0)) ∧ Touch F w wr) (fun i _ => s.length - (intOf i).toNat)
  case atStart => exact ⟨0, Nat.zero_le _, rfl, h4, h5, Touch.of_below F b1⟩
  case round =>
    obtain ⟨k, hk, rfl, hd, hq, hT⟩ := hrel
    by_cases hk2 : k < s.length
    · have hi : ∀ w, (Instr.index 9 (.string (bs s)) (.int .i64 k)).run Try.prog w = .ok (.int .u8 (byteAt s k)) w := index_at s k hk2
      obtain ⟨c0, c1⟩ := byteAt_range s k
      have pt := put_free (puts S (wsFrom at_ (s.take k))) (by rw [puts_length]; exact hS) p (at_ + k) (by omega) (byteAt s k) c0 c1 wr hd
      rw [← puts_one S at_ s k hk2, show ((at_ + k : Nat) : Int) = (at_ : Int) + k by omega] at pt
      go_wp2_with fail
      (with_reducible refine pt.mono ?_)
      rintro e w2 ⟨rfl, hd2, t2⟩
      have hq2 : w2.heap[w.heap.size]? = some (.cells #[.int .i64 0] 26 (0, 0)) := (t2.block _ (Array.getElem?_eq_some_iff.1 hq).1 (by omega)).trans hq
      go_wp2_with fail
      go_roundw
      case rel => exact ⟨k + 1, by omega, by go_num, hd2, hq2, hT.trans t2 (by rintro j rfl; exact .inl h1)⟩
      case measure => simp [intOf]; omega
    · obtain rfl : k = s.length := by omega
      rw [List.take_length] at hd
      have cq : wr.cell? ⟨w.heap.size, 0, none⟩ = some (.int .i64 0) := by simp [World.cell?, hq]
      have zq := bc_frozen hq 0
      go_wp2_with fail
      have hq2 : (wr.setCell ⟨w.heap.size, 0, none⟩ (.int .i64 0)).heap[w.heap.size]? = some (.cells #[.int .i64 0] 26 (0, 0)) := block_set 0 (.int .i64 0) hq
      have hd2 : (wr.setCell ⟨w.heap.size, 0, none⟩ (.int .i64 0)).heap[p]? = _ := (block_far 0 (.int .i64 0) (by omega)).trans hd
      have t2 := hT.setCell (p := ⟨w.heap.size, 0, none⟩) (.inr (Nat.le_refl _)) (.int .i64 0)
      refine leaves_cons (f := 22) (args := #[.pointer (some ⟨w.heap.size, 0, none⟩)]) (by simp) (by simp [go_sem]) ?_
      refine (catch_idle _ _).mono ?_
      rintro e u' w'' ⟨rfl, rfl, rfl⟩
      generalize wr.setCell ⟨w.heap.size, 0, none⟩ (.int .i64 0) = w9 at *
      have cq9 : w9.cell? ⟨w.heap.size, 0, none⟩ = some (.int .i64 0) := by simp [World.cell?, hq2]
      refine ⟨.int .i64 0, by simp [settle, results, Try.results17, go_sem, cq9], rfl, ⟨.inl h1, gr_lt h2 t2.size, hd2⟩, t2⟩
set_option maxHeartbeats 6400000 in
theorem write_paid {F : Nat → Prop} {p : Nat} {d : Dk} (ok : d.Ok) (ho : d.off = false) (hl : 0 ≤ d.left) (at_ : Nat) (s : List UInt8) (hs : at_ + s.length ≤ 32) (E : Int) (D : Dk)
    (hpos : (s.length : Int) ≤ d.left → E = 0 ∧ D = ⟨puts d.s (wsFrom at_ s), d.left - s.length, false⟩) (hneg : ¬ (s.length : Int) ≤ d.left → E = 90 ∧ D = ⟨puts d.s (wsFrom at_ (s.take d.left.toNat)), 0, true⟩) (w : World) (h : DkIn F w p d) :
    Calls Try.prog 17 #[.pointer (some ⟨p, 0, none⟩), .int .i64 at_, .string (bs s)] w fun e w' => e = .returned (.int .i64 E) ∧ DkIn (Gr F w w') w' p D ∧ Touch F w w' := by
  obtain ⟨S, L, o⟩ := d
  simp only [] at ho hl hpos hneg ⊢
  subst ho
  have HP := Lib.hid hpos
  have HN := Lib.hid hneg
  clear hpos hneg
  have hS := ok.s
  have hL := ok.left
  simp only [] at hS hL
  have dd := kdead_w ok (w.alloc (.cells #[.int .i64 0] 26)) (h.kept (Touch.of_below (fun _ => False) (below_one' w _)) (fun _ _ e => e))
  simp only [] at dd
  obtain ⟨h1, h2, h3⟩ := h
  have hp := h2 p h1
  have h4 := kept_block h3 (below_one' w (.cells #[.int .i64 0] 26))
  have h5 := heap_alloc_new w (.cells #[.int .i64 0] 26)
  have hmf : ∀ (fn : Fn) (first cap : Array Value) (w : World), (Instr.makeFunc fn first cap).run Try.prog w = .ok (.func fn first cap) w := fun _ _ _ _ => rfl
  go_enter_defers Try.func17, Try.ntmps17
  go_wp2_with fail
  (with_reducible refine dd.mono ?_)
  rintro e w' ⟨rfl, rfl⟩
  go_wp2_with fail
  have b1 := below_one' w (.cells #[.int .i64 0] 26)
  clear h3 dd
  generalize w.alloc (.cells #[.int .i64 0] 26) = w1 at *
  go_loopw [24] (fun i wr => ∃ k : Nat, k ≤ s.length ∧ (k : Int) ≤ L ∧ i = .int .i64 k ∧ wr.heap[p]? = some (.cells (dkC ⟨puts S (wsFrom at_ (s.take k)), L - k, false⟩).toArray 45 (0, 0)) ∧ wr.heap[w.heap.size]? = some (.cells #[.int .i64 0] 26 (0, 0)) ∧ Touch F w wr) (fun i _ => s.length - (intOf i).toNat)
  case atStart => exact ⟨0, Nat.zero_le _, hl, rfl, by rw [show L - ((0 : Nat) : Int) = L by omega]; exact h4, h5, Touch.of_below F b1⟩
  case round =>
    obtain ⟨k, hk, hkL, rfl, hd, hq, hT⟩ := hrel
    by_cases hk2 : k < s.length
    · have hi : ∀ w, (Instr.index 9 (.string (bs s)) (.int .i64 k)).run Try.prog w = .ok (.int .u8 (byteAt s k)) w := index_at s k hk2
      obtain ⟨c0, c1⟩ := byteAt_range s k
      by_cases hz : (k : Int) < L
      · have pt := put_pays (puts S (wsFrom at_ (s.take k))) (by rw [puts_length]; exact hS) (L - k) (by omega) (by omega) p (at_ + k) (by omega) (byteAt s k) c0 c1 wr hd
        rw [← puts_one S at_ s k hk2, show ((at_ + k : Nat) : Int) = (at_ : Int) + k by omega] at pt
        go_wp2_with fail
        (with_reducible refine pt.mono ?_)
        rintro e w2 ⟨rfl, hd2, t2⟩
        have hq2 : w2.heap[w.heap.size]? = some (.cells #[.int .i64 0] 26 (0, 0)) := (t2.block _ (Array.getElem?_eq_some_iff.1 hq).1 (by omega)).trans hq
        go_wp2_with fail
        go_roundw
        case rel => exact ⟨k + 1, by omega, by omega, by go_num, by rw [show L - ((k + 1 : Nat) : Int) = L - k - 1 by omega]; exact hd2, hq2, hT.trans t2 (by rintro j rfl; exact .inl h1)⟩
        case measure => simp [intOf]; omega
      · have ek : L - (k : Int) = 0 := by omega
        rw [ek] at hd
        have pt := put_dies (puts S (wsFrom at_ (s.take k))) (by rw [puts_length]; exact hS) p (at_ + k) (by omega) (byteAt s k) wr hd
        rw [show ((at_ + k : Nat) : Int) = (at_ : Int) + k by omega] at pt
        go_wp2_with fail
        (with_reducible refine pt.mono ?_)
        rintro e w2 ⟨rfl, hd2, t2⟩
        have hq2 : w2.heap[w.heap.size]? = some (.cells #[.int .i64 0] 26 (0, 0)) := (t2.block _ (Array.getElem?_eq_some_iff.1 hq).1 (by omega)).trans hq
        refine leaves_cons (f := 22) (args := #[.pointer (some ⟨w.heap.size, 0, none⟩)]) (by simp) (by simp [go_sem]) ?_
        refine (catch_out _ _ _ [] _ hq2).mono ?_
        rintro e u' w9 ⟨rfl, rfl, t9, hq9⟩
        have hd9 : w9.heap[p]? = _ := (t9.block p (Array.getElem?_eq_some_iff.1 hd2).1 (by omega)).trans hd2
        have T9 : Touch F w w9 := (hT.trans t2 (by rintro j rfl; exact .inl h1)).trans t9 (by rintro j rfl; exact .inr (Nat.le_refl _))
        have cq9 : w9.cell? ⟨w.heap.size, 0, none⟩ = some (.int .i64 90) := by simp [World.cell?, hq9]
        obtain ⟨rfl, rfl⟩ := HN.out (by omega)
        rw [show L.toNat = k by omega]
        refine ⟨.int .i64 90, by simp [settle, results, Try.results17, go_sem, cq9], rfl, ⟨.inl h1, gr_lt h2 T9.size, hd9⟩, T9⟩
    · obtain rfl : k = s.length := by omega
      rw [List.take_length] at hd
      have cq : wr.cell? ⟨w.heap.size, 0, none⟩ = some (.int .i64 0) := by simp [World.cell?, hq]
      have zq := bc_frozen hq 0
      go_wp2_with fail
      have hq2 : (wr.setCell ⟨w.heap.size, 0, none⟩ (.int .i64 0)).heap[w.heap.size]? = some (.cells #[.int .i64 0] 26 (0, 0)) := block_set 0 (.int .i64 0) hq
      have hd2 : (wr.setCell ⟨w.heap.size, 0, none⟩ (.int .i64 0)).heap[p]? = _ := (block_far 0 (.int .i64 0) (by omega)).trans hd
      have t2 := hT.setCell (p := ⟨w.heap.size, 0, none⟩) (.inr (Nat.le_refl _)) (.int .i64 0)
      refine leaves_cons (f := 22) (args := #[.pointer (some ⟨w.heap.size, 0, none⟩)]) (by simp) (by simp [go_sem]) ?_
      refine (catch_idle _ _).mono ?_
      rintro e u' w'' ⟨rfl, rfl, rfl⟩
      generalize wr.setCell ⟨w.heap.size, 0, none⟩ (.int .i64 0) = w9 at *
      have cq9 : w9.cell? ⟨w.heap.size, 0, none⟩ = some (.int .i64 0) := by simp [World.cell?, hq2]
      obtain ⟨rfl, rfl⟩ := HP.out hkL
      refine ⟨.int .i64 0, by simp [settle, results, Try.results17, go_sem, cq9], rfl, ⟨.inl h1, gr_lt h2 t2.size, hd2⟩, t2⟩
set_option maxHeartbeats 6400000 in
theorem write_off {F : Nat → Prop} {p : Nat} {d : Dk} (ok : d.Ok) (ho : d.off = true) (at_ : Nat) (s : List UInt8) (hs : at_ + s.length ≤ 32) (w : World) (h : DkIn F w p d) :
    Calls Try.prog 17 #[.pointer (some ⟨p, 0, none⟩), .int .i64 at_, .string (bs s)] w fun e w' => e = .returned (.int .i64 90) ∧ DkIn (Gr F w w') w' p d ∧ Touch F w w' := by
  have dd := kdead_w ok (w.alloc (.cells #[.int .i64 0] 26)) (h.kept (Touch.of_below (fun _ => False) (below_one' w _)) (fun _ _ e => e))
  rw [ho] at dd
  obtain ⟨h1, h2, h3⟩ := h
  have hp := h2 p h1
  have h4 := kept_block h3 (below_one' w (.cells #[.int .i64 0] 26))
  have h5 := heap_alloc_new w (.cells #[.int .i64 0] 26)
  have b1 := below_one' w (.cells #[.int .i64 0] 26)
  go_enter_defers Try.func17, Try.ntmps17
  go_wp2_with fail
  (with_reducible refine dd.mono ?_)
  rintro e w' ⟨rfl, rfl⟩
  go_wp2_with fail
  have h9 := kept_block h3 (below_one' w (.cells #[.int .i64 90] 26))
  have q9 := heap_alloc_new w (.cells #[.int .i64 90] 26)
  have b9 := below_one' w (.cells #[.int .i64 90] 26)
  generalize w.alloc (.cells #[.int .i64 90] 26) = w9 at *
  have cq9 : w9.cell? ⟨w.heap.size, 0, none⟩ = some (.int .i64 90) := by simp [World.cell?, q9]
  have T9 := Touch.of_below F b9
  refine ⟨.int .i64 90, by simp [settle, results, Try.results17, go_sem, cq9], rfl, ⟨.inl h1, gr_lt h2 T9.size, h9⟩, T9⟩
theorem write_any {F : Nat → Prop} {p : Nat} {d : Dk} (ok : d.Ok) (at_ : Nat) (s : List UInt8) (hs : at_ + s.length ≤ 32) (w : World) (h : DkIn F w p d) :
    Calls Try.prog 17 #[.pointer (some ⟨p, 0, none⟩), .int .i64 at_, .string (bs s)] w fun e w' => e = .returned (.int .i64 (wE d (wsFrom at_ s))) ∧ DkIn (Gr F w w') w' p (wW d (wsFrom at_ s)) ∧ Touch F w w' := by
  by_cases ho : d.off = true
  · have e1 : wE d (wsFrom at_ s) = 90 := by unfold wE; rw [if_pos ho]
    have e2 : wW d (wsFrom at_ s) = d := by unfold wW; rw [if_pos ho]
    rw [e1, e2]
    exact write_off ok ho at_ s hs w h
  · have hf : d.off = false := by simpa using ho
    by_cases hl : d.left < 0
    · have hm : d.left = -1 := by have := ok.left; omega
      have e1 : wE d (wsFrom at_ s) = 0 := by unfold wE; rw [if_neg ho, if_pos (.inl hl)]
      have e2 : wW d (wsFrom at_ s) = ⟨puts d.s (wsFrom at_ s), -1, false⟩ := by unfold wW; rw [if_neg ho, if_pos hl, hm]
      rw [e1, e2]
      exact write_free ok hf hm at_ s hs w h
    · refine write_paid ok hf (by omega) at_ s hs _ _ (fun hle => ⟨?_, ?_⟩) (fun hle => ⟨?_, ?_⟩) w h
      · unfold wE; rw [if_neg ho, wsFrom_length, if_pos (.inr hle)]
      · unfold wW; rw [if_neg ho, if_neg hl, wsFrom_length, if_pos hle]
      · unfold wE; rw [if_neg ho, wsFrom_length, if_neg (by omega)]
      · unfold wW; rw [if_neg ho, if_neg hl, wsFrom_length, if_neg hle, wsFrom_take]
theorem wW_ok {d : Dk} (ok : d.Ok) (ws : List (Nat × UInt8)) : (wW d ws).Ok := by
  have hl := ok.left
  unfold wW
  split
  · exact ok
  · split
    · exact ⟨by rw [puts_length]; exact ok.s, hl⟩
    · split
      · exact ⟨by rw [puts_length]; exact ok.s, by simp only []; omega⟩
      · exact ⟨by rw [puts_length]; exact ok.s, by simp⟩
/-- Two writes as one. -/
theorem wW_go {d : Dk} {a : List (Nat × UInt8)} (b : List (Nat × UInt8)) (h : wE d a = 0) : wW (wW d a) b = wW d (a ++ b) ∧ wE (wW d a) b = wE d (a ++ b) := by
  unfold wE at h
  split at h
  · cases h
  · rename_i ho
    split at h
    · rename_i hl
      by_cases l0 : d.left < 0
      · have e : wW d a = ⟨puts d.s a, d.left, false⟩ := by unfold wW; rw [if_neg ho, if_pos l0]
        rw [e]
        unfold wW wE
        simp only [if_neg ho, if_pos l0, puts_append, Bool.false_eq_true, if_false]
        refine ⟨?_, ?_⟩ <;> first | rfl | trivial | (rw [if_pos (.inl l0), if_pos (.inl l0)])
      · have hle : (a.length : Int) ≤ d.left := hl.resolve_left l0
        have e : wW d a = ⟨puts d.s a, d.left - a.length, false⟩ := by unfold wW; rw [if_neg ho, if_neg l0, if_pos hle]
        rw [e]
        unfold wW wE
        simp only [if_neg ho, if_neg l0, Bool.false_eq_true, if_false, List.length_append]
        rw [if_neg (show ¬ d.left - (a.length : Int) < 0 by omega)]
        by_cases hb : (b.length : Int) ≤ d.left - a.length
        · rw [if_pos hb, if_pos (show ((a.length + b.length : Nat) : Int) ≤ d.left by omega), if_pos (.inr hb), if_pos (.inr (show ((a.length + b.length : Nat) : Int) ≤ d.left by omega)), puts_append]
          refine ⟨?_, rfl⟩
          congr 1
          omega
        · have e3 : (a ++ b).take d.left.toNat = a ++ b.take (d.left - (a.length : Int)).toNat := by
            have : a.length ≤ d.left.toNat := by omega
            rw [List.take_append, List.take_of_length_le this]
            congr 2
            omega
          rw [if_neg hb, if_neg (show ¬ ((a.length + b.length : Nat) : Int) ≤ d.left by omega), if_neg (by omega), if_neg (by omega), e3, puts_append]
          exact ⟨rfl, rfl⟩
    · cases h
theorem wW_stop {d : Dk} {a : List (Nat × UInt8)} (b : List (Nat × UInt8)) (h : wE d a ≠ 0) : wE d a = 90 ∧ wW d (a ++ b) = wW d a ∧ wE d (a ++ b) = 90 := by
  unfold wE at h ⊢
  split at h
  · rename_i ho
    refine ⟨by rw [if_pos ho], by unfold wW; rw [if_pos ho, if_pos ho], by rw [if_pos ho]⟩
  · rename_i ho
    split at h
    · exact absurd rfl h
    · rename_i hl
      have l0 : ¬ d.left < 0 := fun e => hl (.inl e)
      have l1 : ¬ (a.length : Int) ≤ d.left := fun e => hl (.inr e)
      rw [if_neg ho, if_neg hl, if_neg ho]
      refine ⟨rfl, ?_, by rw [List.length_append, if_neg (by omega)]⟩
      unfold wW
      rw [if_neg ho, if_neg l0, List.length_append, if_neg (by omega), if_neg ho, if_neg l0, if_neg l1, List.take_append_of_le_length (by omega)]
theorem sav_is {d : Dk} (ok : d.Ok) (f : Int) : savD d f = wW d (saveW (target d.s) (packS d.s f)) ∧ savE d = wE d (saveW (target d.s) (packS d.s f)) := by
  have hp : (packS d.s f).length = 16 := pack_length _ _
  have hw := saveW_length (at_ := target d.s) hp
  have ha := save_all ok.s (target_cases d.s) hp rfl
  unfold savD savE wW wE
  rw [hw, ha]
  exact ⟨rfl, rfl⟩
end Go.Proofs.Ytcfdggeoecdnnaa.W
