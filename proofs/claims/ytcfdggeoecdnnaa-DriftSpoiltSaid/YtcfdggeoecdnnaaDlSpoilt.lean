/- DriftSpoilt: for every two frequencies and every two numbers a byte of a whole slot that is another one makes it not whole: the other one's frequency is loaded. No condition. -/
import Derived.Test.YtcfdggeoecdnnaaDrS
import Derived.Test.YtcfdggeoecdnnaaRowS
import Derived.WalkKit
import Derived.WalkSpells
import Derived.WalkLawsBesides
import Derived.Lib.Hide
import Derived.Handy
import Derived.ProofKit
import Derived.OpenShut
import Derived.ShutString
import Derived.ChangeOld
import Derived.Below
import Derived.Deep.DeepCutAuto
namespace Go.Proofs.Ytcfdggeoecdnnaa.DriftSpoilt
open Go.Proofs.Ytcfdggeoecdnnaa.W
open Go.ChangeShapes Go.WideShapes Go.ChangeAt Go.RowKit
open Go.ChangeMaps (open_string shut_string)
set_option linter.unusedVariables false
theorem own : ownKnob Try.prog.godebug = none := by kernel_rfl
theorem laidOut : laidOutB Try.prog = true := by kernel_rfl
open Go.Sort
set_option linter.unusedSimpArgs false
theorem block_lt {w : World} {b : Nat} {o : Obj} (h : w.heap[b]? = some o) : b < w.heap.size := (Array.getElem?_eq_some_iff.1 h).1
theorem six_cells {w : World} {p : Nat} {a b c d e f : Value} {t : TypeId} (h : w.heap[p]? = some (.cells #[a, b, c, d, e, f] t (0, 0))) :
    w.cell? ⟨p, 0, none⟩ = some a ∧ w.cell? ⟨p, 1, none⟩ = some b ∧ w.cell? ⟨p, 2, none⟩ = some c ∧ w.cell? ⟨p, 3, none⟩ = some d ∧ w.cell? ⟨p, 4, none⟩ = some e ∧ w.cell? ⟨p, 5, none⟩ = some f := by
  refine ⟨?_, ?_, ?_, ?_, ?_, ?_⟩ <;> simp [World.cell?, h]
theorem six_frozen {w : World} {p : Nat} {a b c d e f : Value} {t : TypeId} (h : w.heap[p]? = some (.cells #[a, b, c, d, e, f] t (0, 0))) :
    w.frozen? ⟨p, 0, none⟩ = false ∧ w.frozen? ⟨p, 1, none⟩ = false ∧ w.frozen? ⟨p, 2, none⟩ = false ∧ w.frozen? ⟨p, 3, none⟩ = false ∧ w.frozen? ⟨p, 4, none⟩ = false ∧ w.frozen? ⟨p, 5, none⟩ = false := by
  refine ⟨?_, ?_, ?_, ?_, ?_, ?_⟩ <;> simp [World.frozen?, h]
theorem six_set {w : World} {p : Nat} {a b c d e f : Value} {t : TypeId} (x0 x1 x2 x3 x4 x5 : Value) (h : w.heap[p]? = some (.cells #[a, b, c, d, e, f] t (0, 0))) :
    ((((((w.setCell ⟨p, 0, none⟩ x0).setCell ⟨p, 1, none⟩ x1).setCell ⟨p, 2, none⟩ x2).setCell ⟨p, 3, none⟩ x3).setCell ⟨p, 4, none⟩ x4).setCell ⟨p, 5, none⟩ x5).heap[p]? = some (.cells #[x0, x1, x2, x3, x4, x5] t (0, 0)) :=
  block_set 5 x5 (block_set 4 x4 (block_set 3 x3 (block_set 2 x2 (block_set 1 x1 (block_set 0 x0 h)))))
theorem six_below {w0 w : World} {p : Nat} (h : Below w0.heap.size w0 w) (hp : w0.heap.size ≤ p) (x0 x1 x2 x3 x4 x5 : Value) :
    Below w0.heap.size w0 ((((((w.setCell ⟨p, 0, none⟩ x0).setCell ⟨p, 1, none⟩ x1).setCell ⟨p, 2, none⟩ x2).setCell ⟨p, 3, none⟩ x3).setCell ⟨p, 4, none⟩ x4).setCell ⟨p, 5, none⟩ x5) :=
  ((((((h.setCell (p := ⟨p, 0, none⟩) hp _).setCell (p := ⟨p, 1, none⟩) hp _).setCell (p := ⟨p, 2, none⟩) hp _).setCell (p := ⟨p, 3, none⟩) hp _).setCell (p := ⟨p, 4, none⟩) hp _).setCell (p := ⟨p, 5, none⟩) hp _)
theorem one_byte_at (w : World) (b : Nat) (x : Int) (hc : w.cell? ⟨b, 0, none⟩ = some (.int .u8 x)) : (convert 38 9 (.slice (some ⟨b, 0, none⟩) 1 1)).run Try.prog w = .ok (.string (bs [b8 x])) w := by
  rw [run_convert_bytes_string _ _ _ 5 _ _ _ Try.underlying38 Try.underlying5 Try.underlying9]
  have hl := run_loadCells_list (P := Try.prog) w ⟨b, 0, none⟩ [.int .u8 x] (fun j v hj => by
    match j, hj with
    | 0, hj => simp at hj; subst hj; exact hc)
  exact run_bytesToString _ _ 1 1 [x] hl
/-- What a byte that is another one leaves: which slot is whole, and what is loaded. -/
structure Left9 (j : Nat) (a b : Int) (A B : Sl) (lo : Int) : Prop where
  low : j < 16 → A.whole = false ∧ B.whole = true ∧ lo = b
  high : 16 ≤ j → A.whole = true ∧ B.whole = false ∧ lo = a
set_option maxRecDepth 100000 in
set_option maxHeartbeats 25600000 in
theorem walk (a b at_ by_ : Int) (w : World) (w0 : (Lit.int .i64 a).wf = true) (w1 : (Lit.int .i64 b).wf = true) (w2 : (Lit.int .u8 at_).wf = true) (w3 : (Lit.int .u8 by_).wf = true) :
    Calls Try.prog 4 #[.int .i64 a, .int .i64 b, .int .u8 at_, .int .u8 by_] w fun e w' => e = .returned (.bool true) ∧ Below w.heap.size w w' := by
  obtain ⟨a0, a1⟩ := i64_bounds w0
  obtain ⟨b0, b1⟩ := i64_bounds w1
  have t01 := u8_bounds w2
  have y01 := u8_bounds w3
  clear w0 w1 w2 w3
  have cz := shown9_any
  have cn := dnew_any [] (by decide) w w (Below.refl _ _)
  rw [show bs [] = { data := #[] } from rfl] at cn
  have hl := newD_live []
  obtain ⟨v1, hl2, _⟩ := live_save hl a
  obtain ⟨v2, hl3, _⟩ := live_save hl2 b
  have hs := two_saves a b a0 a1
  have c1 := fun w' p (h : OneD w w' p (newD [])) => dsave_any a a0 a1 h
  rw [v1] at c1
  have c2 := fun w' p (h : OneD w w' p (savD (newD []) a)) => dsave_any b b0 b1 h
  rw [v2] at c2
  have c3 := fun w' p (h : OneD w w' p (savD (savD (newD []) a) b)) => dbytes_any h
  rw [hs] at c3
  generalize savD (savD (newD []) a) b = d3 at *
  generalize savD (newD []) a = d2 at *
  generalize newD [] = d1 at *
  clear hl hl2 hl3 v1 v2 hs
  have hS : (pack 1 a ++ pack 2 b).length = 32 := by simp [pack_length]
  have hz : (bs (pack 1 a ++ pack 2 b)).size = 32 := by rw [bs_size, hS]
  by_cases hy : by_ = 0
  · subst hy
    clear hS
    generalize bs (pack 1 a ++ pack 2 b) = S at *
    go_enter Try.func4, Try.ntmps4
    go_wp2_with fail
    (with_reducible refine cn.mono ?_)
    rintro e w1 ⟨p, rfl, h1, _⟩
    go_wp2_with fail
    (with_reducible refine (c1 _ _ h1).mono ?_)
    rintro e w2 ⟨rfl, h2⟩
    go_wp2_with fail
    (with_reducible refine (c2 _ _ h2).mono ?_)
    rintro e w3 ⟨rfl, h3⟩
    go_wp2_with fail
    (with_reducible refine (cz _).mono ?_)
    rintro e w4 ⟨rfl, hB⟩
    have h4 := h3.kept hB
    go_wp2_with fail
    (with_reducible refine (c3 _ _ h4).mono ?_)
    rintro e w5 ⟨rfl, hB5⟩
    have h5 := (h4.kept hB5).below
    go_wp2_with fail
    go_ret
    exact ⟨rfl, h5⟩
  · have hk0 : (by_ == 0) = false := by simpa using hy
    obtain ⟨j, hj⟩ : ∃ j : Nat, (at_ % 32).toNat = j := ⟨_, rfl⟩
    have j32 : j < 32 := by omega
    have em : at_.tmod 32 = j := by rw [Int.tmod_eq_emod_of_nonneg (by omega)]; omega
    have em2 : at_ % 32 = j := by omega
    have wa : IntKind.i64.wrap at_ = at_ := by rw [IntKind.wrap_i64]; omega
    have wj : IntKind.i64.wrap ((j : Int) + 1) = (j : Int) + 1 := by rw [IntKind.wrap_i64]; omega
    obtain ⟨n0, n1⟩ := byteAt_range (pack 1 a ++ pack 2 b) j
    obtain ⟨x0, x1, x2⟩ := xor8 (byteAt (pack 1 a ++ pack 2 b) j) by_ n0 n1 (by omega) (by omega)
    obtain ⟨tl, tlow, thigh⟩ := spoil_two a b a0 a1 b0 b1 j32 (x := b8 (bits .xor .u8 (byteAt (pack 1 a ++ pack 2 b) j) by_)) (by rw [b8_nat _ x0 x1]; exact x2)
    have left9 : Left9 j a b (slA (turned9 (pack 1 a ++ pack 2 b) j (b8 (bits .xor .u8 (byteAt (pack 1 a ++ pack 2 b) j) by_)))) (slB (turned9 (pack 1 a ++ pack 2 b) j (b8 (bits .xor .u8 (byteAt (pack 1 a ++ pack 2 b) j) by_)))) (loadV (turned9 (pack 1 a ++ pack 2 b) j (b8 (bits .xor .u8 (byteAt (pack 1 a ++ pack 2 b) j) by_)))) :=
      ⟨fun h => by obtain ⟨e1, e2, e3, e4⟩ := tlow h; rw [e1, e2, e3]; exact ⟨rfl, rfl, rfl⟩, fun h => by obtain ⟨e1, e2, e3, e4⟩ := thigh h; rw [e1, e2, e3]; exact ⟨rfl, rfl, rfl⟩⟩
    have lb : loadB (turned9 (pack 1 a ++ pack 2 b) j (b8 (bits .xor .u8 (byteAt (pack 1 a ++ pack 2 b) j) by_))) = true := by
      by_cases h : j < 16
      · exact (tlow h).2.2.2
      · exact (thigh (by omega)).2.2.2
    clear tlow thigh
    have ij := index_at (pack 1 a ++ pack 2 b) j (by omega)
    have st := slice_to (pack 1 a ++ pack 2 b) j (by omega)
    have sf : ∀ w, (Instr.slice 9 (.string (bs (pack 1 a ++ pack 2 b))) (some (.int .i64 ((j : Int) + 1))) none none).run Try.prog w = .ok (.string (bs ((pack 1 a ++ pack 2 b).drop (j + 1)))) w := slice_from (pack 1 a ++ pack 2 b) (j + 1) (by omega)
    have tw : cut (pack 1 a ++ pack 2 b) 0 j ++ b8 (bits .xor .u8 (byteAt (pack 1 a ++ pack 2 b) j) by_) :: (pack 1 a ++ pack 2 b).drop (j + 1) = turned9 (pack 1 a ++ pack 2 b) j (b8 (bits .xor .u8 (byteAt (pack 1 a ++ pack 2 b) j) by_)) := rfl
    have l1 : (cut (pack 1 a ++ pack 2 b) 0 j).length = j := by rw [cut_len]; omega
    have l2 : ((pack 1 a ++ pack 2 b).drop (j + 1)).length = 31 - j := by rw [List.length_drop]; omega
    have hjb : j ≤ 9223372036854775806 := by omega
    have hjc : j + 1 + (31 - j) ≤ 9223372036854775807 := by omega
    generalize turned9 (pack 1 a ++ pack 2 b) j (b8 (bits .xor .u8 (byteAt (pack 1 a ++ pack 2 b) j) by_)) = T at *
    generalize pack 1 a ++ pack 2 b = L at *
    have en : (newD T).s = T := by rw [newD_same tl]
    have y3 := fun w' (h : Below w.heap.size w w') => dnew_any T (by rw [tl]; decide) w w' h
    have y4 := fun w' p (h : OneD w w' p (newD T)) => dslots_any h
    have y5 := fun w' p (h : OneD w w' p (newD T)) => dload_any h
    rw [en] at y4 y5
    rw [lb] at y5
    generalize newD T = dT at *
    generalize slA T = A at *
    generalize slB T = B at *
    generalize loadV T = lo at *
    clear hj x0 x1 x2 n0 n1 en lb tl hz hy
    have hz : (bs L).size = 32 := by rw [bs_size, hS]
    go_enter Try.func4, Try.ntmps4
    go_wp2_with fail
    (with_reducible refine cn.mono ?_)
    rintro e w1 ⟨p, rfl, h1, _⟩
    go_wp2_with fail
    (with_reducible refine (c1 _ _ h1).mono ?_)
    rintro e w2 ⟨rfl, h2⟩
    go_wp2_with fail
    (with_reducible refine (c2 _ _ h2).mono ?_)
    rintro e w3 ⟨rfl, h3⟩
    go_wp2_with fail
    (with_reducible refine (cz _).mono ?_)
    rintro e w3' ⟨rfl, hB3⟩
    have h3' := h3.kept hB3
    go_wp2_with fail
    (with_reducible refine (c3 _ _ h3').mono ?_)
    rintro e w4 ⟨rfl, hB4'⟩
    have hB4 := (h3'.kept hB4').below
    clear h1 h2 h3 h3' hB3 hB4' cn c1 c2 c3
    go_upto_region 8 with fail
    go_cut [12] (fun p wx => ∃ bk : Nat, p = .pointer (some ⟨bk, 0, none⟩) ∧ wx.heap[bk]? = some (.cells #[.bool A.whole, .int .u32 A.seq, .int .i64 A.freq, .bool B.whole, .int .u32 B.seq, .int .i64 B.freq] 36 (0, 0)) ∧ Below w.heap.size w wx)
    case first =>
      have hs4 := hB4.size
      refine wp_region_any (by kernel_rfl) ?_
      change wpAny _ _ _ _ _ _ _ (World.drew w4)
      have hBd := hB4.drew
      generalize World.drew w4 = wd at *
      refine wpAny_take (i := 0) (v := .string (bs L)) rfl (by kernel_rfl) (by kernel_rfl) (by kernel_rfl) (fun _ _ _ h => h) (Or.inl ⟨by rfl, fun w => by go_simp⟩) ?_
      refine wpAny_take (i := 1) (v := .int .i64 j) rfl (by kernel_rfl) (by kernel_rfl) (by kernel_rfl) (fun _ _ _ h => h) (Or.inl ⟨by rfl, fun w => by go_simp⟩) ?_
      refine wpAny_take (i := 2) (v := .string (bs (cut L 0 j))) rfl (by kernel_rfl) (by kernel_rfl) (by kernel_rfl) (fun _ _ _ h => h) (Or.inl ⟨by rfl, fun w => by go_simp⟩) ?_
      refine wpAny_take (i := 3) (v := .string (bs L)) rfl (by kernel_rfl) (by kernel_rfl) (by kernel_rfl) (fun _ _ _ h => h) (Or.inl ⟨by rfl, fun w => by go_simp⟩) ?_
      refine wpAny_take (i := 4) (v := .int .i64 j) rfl (by kernel_rfl) (by kernel_rfl) (by kernel_rfl) (fun _ _ _ h => h) (Or.inl ⟨by rfl, fun w => by go_simp⟩) ?_
      refine wpAny_take (i := 5) (v := .int .u8 (byteAt L j)) rfl (by kernel_rfl) (by kernel_rfl) (by kernel_rfl) (fun _ _ _ h => h) (Or.inl ⟨by rfl, fun w => by go_simp⟩) ?_
      refine wpAny_take (i := 6) (v := .int .u8 by_) rfl (by kernel_rfl) (by kernel_rfl) (by kernel_rfl) (fun _ _ _ h => h) (Or.inl ⟨by rfl, fun w => by go_simp⟩) ?_
      refine wpAny_take (i := 7) (v := .int .u8 (bits .xor .u8 (byteAt L j) by_)) rfl (by kernel_rfl) (by kernel_rfl) (by kernel_rfl) (fun _ _ _ h => h) (Or.inl ⟨by rfl, fun w => by go_simp⟩) ?_
      refine wpAny_take (i := 11) (v := .string (bs L)) rfl (by kernel_rfl) (by kernel_rfl) (by kernel_rfl) (fun _ _ _ h => h) (Or.inl ⟨by rfl, fun w => by go_simp⟩) ?_
      refine wpAny_take (i := 12) (v := .int .i64 j) rfl (by kernel_rfl) (by kernel_rfl) (by kernel_rfl) (fun _ _ _ h => h) (Or.inl ⟨by rfl, fun w => by go_simp⟩) ?_
      refine wpAny_take (i := 13) (v := .int .i64 ((j : Int) + 1)) rfl (by kernel_rfl) (by kernel_rfl) (by kernel_rfl) (fun _ _ _ h => h) (Or.inl ⟨by rfl, fun w => by go_simp⟩) ?_
      refine wpAny_take (i := 14) (v := .string (bs (L.drop (j + 1)))) rfl (by kernel_rfl) (by kernel_rfl) (by kernel_rfl) (fun _ _ _ h => h) (Or.inl ⟨by rfl, fun w => by go_simp⟩) ?_
      refine wpAny_ready (rs := [8, 18]) (by kernel_rfl) (by simp) ?_
      refine AllReady.cons rfl (fun K hK => ?_) (AllReady.cons rfl (fun K hK => ?_) (AllReady.nil))
      · go_simp
        (refine hK _ _ ?_; clear hK K)
        have hW5 := hBd.size
        have hB5 := hBd.alloc hBd.size (.cells #[.int .u8 (bits .xor .u8 (byteAt L j) by_)] 5)
        have hA5 : Below wd.heap.size wd (wd.alloc (.cells #[.int .u8 (bits .xor .u8 (byteAt L j) by_)] 5)) := (Below.refl _ _).alloc (Nat.le_refl _) _
        have hN5 := heap_alloc_new wd (.cells #[.int .u8 (bits .xor .u8 (byteAt L j) by_)] 5)
        generalize wd.alloc (.cells #[.int .u8 (bits .xor .u8 (byteAt L j) by_)] 5) = v5 at *
        refine wpAny_ready (rs := [9, 18]) (by kernel_rfl) (by simp) ?_
        refine AllReady.cons rfl (fun K hK => ?_) (AllReady.cons rfl (fun K hK => ?_) (AllReady.nil))
        · have cv6 := one_byte_at v5 wd.heap.size (bits .xor .u8 (byteAt L j) by_) (by simp [World.cell?, hN5])
          go_simp
          (refine hK _ _ ?_; clear hK K)
          refine wpAny_take (i := 10) (v := .string (bs (cut L 0 j ++ [b8 (bits .xor .u8 (byteAt L j) by_)]))) rfl (by kernel_rfl) (by kernel_rfl) (by kernel_rfl) (fun _ _ _ h => h) (Or.inl ⟨by rfl, fun w => by go_simp⟩) ?_
          refine wpAny_take (i := 15) (v := .string (bs T)) rfl (by kernel_rfl) (by kernel_rfl) (by kernel_rfl) (fun _ _ _ h => h) (Or.inl ⟨by rfl, fun w => by go_simp⟩) ?_
          refine wpAny_ready (rs := [16, 18]) (by kernel_rfl) (by simp) ?_
          refine AllReady.cons rfl (fun K hK => ?_) (AllReady.cons rfl (fun K hK => ?_) (AllReady.nil))
          · go_simp
            go_wp2_with ((go_at_call 8; refine (y3 _ hB5).mono ?_; rintro e v7 ⟨pd, rfl, hD7, hA7⟩))
            first | (refine hK _ _ ?_; clear hK K) | skip
            have hB7 := hD7.below
            refine wpAny_ready (rs := [17, 18]) (by kernel_rfl) (by simp) ?_
            refine AllReady.cons rfl (fun K hK => ?_) (AllReady.cons rfl (fun K hK => ?_) (AllReady.nil))
            · go_simp
              go_wp2_with ((go_at_call 14; refine (y4 _ _ hD7).mono ?_; rintro e v8 ⟨rfl, hA8⟩))
              first | (refine hK _ _ ?_; clear hK K) | skip
              have hB8 := (hD7.kept hA8).below
              refine wpAny_ready (rs := [18]) (by kernel_rfl) (by simp) ?_
              refine AllReady.cons rfl (fun K hK => ?_) (AllReady.nil)
              go_simp
              (refine hK _ _ ?_; clear hK K)
              have hW9 := hB8.size
              have hB9 := hB8.alloc hB8.size (.cells #[.bool false, .int .u32 0, .int .i64 0, .bool false, .int .u32 0, .int .i64 0] 36)
              have hA9 : Below v8.heap.size v8 (v8.alloc (.cells #[.bool false, .int .u32 0, .int .i64 0, .bool false, .int .u32 0, .int .i64 0] 36)) := (Below.refl _ _).alloc (Nat.le_refl _) _
              have hN9 := heap_alloc_new v8 (.cells #[.bool false, .int .u32 0, .int .i64 0, .bool false, .int .u32 0, .int .i64 0] 36)
              generalize v8.alloc (.cells #[.bool false, .int .u32 0, .int .i64 0, .bool false, .int .u32 0, .int .i64 0] 36) = v9 at *
              refine wpAny_ready (rs := [19]) (by kernel_rfl) (by simp) ?_
              refine AllReady.cons rfl (fun K hK => ?_) (AllReady.nil)
              obtain ⟨r0, r1, r2, r3, r4, r5⟩ := six_cells hN9
              obtain ⟨g0, g1, g2, g3, g4, g5⟩ := six_frozen hN9
              have lz := block_lt hN9
              have fz := six_set (.bool A.whole) (.int .u32 A.seq) (.int .i64 A.freq) (.bool B.whole) (.int .u32 B.seq) (.int .i64 B.freq) hN9
              have bz := six_below hB9 hW9 (.bool A.whole) (.int .u32 A.seq) (.int .i64 A.freq) (.bool B.whole) (.int .u32 B.seq) (.int .i64 B.freq)
              go_simp
              (refine hK _ _ ?_; clear hK K)
              refine wpAny_done (by kernel_rfl) ?_ _
              go_wp2_with fail
              go_meet
              exact ⟨v8.heap.size, rfl, fz, bz⟩
            · go_simp
              (refine hK _ _ ?_; clear hK K)
              have hW10 := hB7.size
              have hB10 := hB7.alloc hB7.size (.cells #[.bool false, .int .u32 0, .int .i64 0, .bool false, .int .u32 0, .int .i64 0] 36)
              have hA10 : Below v7.heap.size v7 (v7.alloc (.cells #[.bool false, .int .u32 0, .int .i64 0, .bool false, .int .u32 0, .int .i64 0] 36)) := (Below.refl _ _).alloc (Nat.le_refl _) _
              have hN10 := heap_alloc_new v7 (.cells #[.bool false, .int .u32 0, .int .i64 0, .bool false, .int .u32 0, .int .i64 0] 36)
              have hD10 := hD7.kept hA10
              generalize v7.alloc (.cells #[.bool false, .int .u32 0, .int .i64 0, .bool false, .int .u32 0, .int .i64 0] 36) = v10 at *
              refine wpAny_ready (rs := [17]) (by kernel_rfl) (by simp) ?_
              refine AllReady.cons rfl (fun K hK => ?_) (AllReady.nil)
              go_simp
              go_wp2_with ((go_at_call 14; refine (y4 _ _ hD10).mono ?_; rintro e v11 ⟨rfl, hA11⟩))
              first | (refine hK _ _ ?_; clear hK K) | skip
              have hB11 := (hD10.kept hA11).below
              have hZ11 := (hA11.block _ (block_lt hN10)).trans hN10
              refine wpAny_ready (rs := [19]) (by kernel_rfl) (by simp) ?_
              refine AllReady.cons rfl (fun K hK => ?_) (AllReady.nil)
              obtain ⟨r0, r1, r2, r3, r4, r5⟩ := six_cells hZ11
              obtain ⟨g0, g1, g2, g3, g4, g5⟩ := six_frozen hZ11
              have lz := block_lt hZ11
              have fz := six_set (.bool A.whole) (.int .u32 A.seq) (.int .i64 A.freq) (.bool B.whole) (.int .u32 B.seq) (.int .i64 B.freq) hZ11
              have bz := six_below hB11 hW10 (.bool A.whole) (.int .u32 A.seq) (.int .i64 A.freq) (.bool B.whole) (.int .u32 B.seq) (.int .i64 B.freq)
              go_simp
              (refine hK _ _ ?_; clear hK K)
              refine wpAny_done (by kernel_rfl) ?_ _
              go_wp2_with fail
              go_meet
              exact ⟨v7.heap.size, rfl, fz, bz⟩
          · go_simp
            (refine hK _ _ ?_; clear hK K)
            have hW12 := hB5.size
            have hB12 := hB5.alloc hB5.size (.cells #[.bool false, .int .u32 0, .int .i64 0, .bool false, .int .u32 0, .int .i64 0] 36)
            have hA12 : Below v5.heap.size v5 (v5.alloc (.cells #[.bool false, .int .u32 0, .int .i64 0, .bool false, .int .u32 0, .int .i64 0] 36)) := (Below.refl _ _).alloc (Nat.le_refl _) _
            have hN12 := heap_alloc_new v5 (.cells #[.bool false, .int .u32 0, .int .i64 0, .bool false, .int .u32 0, .int .i64 0] 36)
            generalize v5.alloc (.cells #[.bool false, .int .u32 0, .int .i64 0, .bool false, .int .u32 0, .int .i64 0] 36) = v12 at *
            refine wpAny_ready (rs := [16]) (by kernel_rfl) (by simp) ?_
            refine AllReady.cons rfl (fun K hK => ?_) (AllReady.nil)
            go_simp
            go_wp2_with ((go_at_call 8; refine (y3 _ hB12).mono ?_; rintro e v13 ⟨pd, rfl, hD13, hA13⟩))
            first | (refine hK _ _ ?_; clear hK K) | skip
            have hB13 := hD13.below
            have hZ13 := (hA13.block _ (block_lt hN12)).trans hN12
            refine wpAny_ready (rs := [17]) (by kernel_rfl) (by simp) ?_
            refine AllReady.cons rfl (fun K hK => ?_) (AllReady.nil)
            go_simp
            go_wp2_with ((go_at_call 14; refine (y4 _ _ hD13).mono ?_; rintro e v14 ⟨rfl, hA14⟩))
            first | (refine hK _ _ ?_; clear hK K) | skip
            have hB14 := (hD13.kept hA14).below
            have hZ14 := (hA14.block _ (block_lt hZ13)).trans hZ13
            refine wpAny_ready (rs := [19]) (by kernel_rfl) (by simp) ?_
            refine AllReady.cons rfl (fun K hK => ?_) (AllReady.nil)
            obtain ⟨r0, r1, r2, r3, r4, r5⟩ := six_cells hZ14
            obtain ⟨g0, g1, g2, g3, g4, g5⟩ := six_frozen hZ14
            have lz := block_lt hZ14
            have fz := six_set (.bool A.whole) (.int .u32 A.seq) (.int .i64 A.freq) (.bool B.whole) (.int .u32 B.seq) (.int .i64 B.freq) hZ14
            have bz := six_below hB14 hW12 (.bool A.whole) (.int .u32 A.seq) (.int .i64 A.freq) (.bool B.whole) (.int .u32 B.seq) (.int .i64 B.freq)
            go_simp
            (refine hK _ _ ?_; clear hK K)
            refine wpAny_done (by kernel_rfl) ?_ _
            go_wp2_with fail
            go_meet
            exact ⟨v5.heap.size, rfl, fz, bz⟩
        · go_simp
          (refine hK _ _ ?_; clear hK K)
          have hW15 := hB5.size
          have hB15 := hB5.alloc hB5.size (.cells #[.bool false, .int .u32 0, .int .i64 0, .bool false, .int .u32 0, .int .i64 0] 36)
          have hA15 : Below v5.heap.size v5 (v5.alloc (.cells #[.bool false, .int .u32 0, .int .i64 0, .bool false, .int .u32 0, .int .i64 0] 36)) := (Below.refl _ _).alloc (Nat.le_refl _) _
          have hN15 := heap_alloc_new v5 (.cells #[.bool false, .int .u32 0, .int .i64 0, .bool false, .int .u32 0, .int .i64 0] 36)
          have hX15 := (hA15.block _ (block_lt hN5)).trans hN5
          generalize v5.alloc (.cells #[.bool false, .int .u32 0, .int .i64 0, .bool false, .int .u32 0, .int .i64 0] 36) = v15 at *
          refine wpAny_ready (rs := [9]) (by kernel_rfl) (by simp) ?_
          refine AllReady.cons rfl (fun K hK => ?_) (AllReady.nil)
          have cv16 := one_byte_at v15 wd.heap.size (bits .xor .u8 (byteAt L j) by_) (by simp [World.cell?, hX15])
          go_simp
          (refine hK _ _ ?_; clear hK K)
          refine wpAny_take (i := 10) (v := .string (bs (cut L 0 j ++ [b8 (bits .xor .u8 (byteAt L j) by_)]))) rfl (by kernel_rfl) (by kernel_rfl) (by kernel_rfl) (fun _ _ _ h => h) (Or.inl ⟨by rfl, fun w => by go_simp⟩) ?_
          refine wpAny_take (i := 15) (v := .string (bs T)) rfl (by kernel_rfl) (by kernel_rfl) (by kernel_rfl) (fun _ _ _ h => h) (Or.inl ⟨by rfl, fun w => by go_simp⟩) ?_
          refine wpAny_ready (rs := [16]) (by kernel_rfl) (by simp) ?_
          refine AllReady.cons rfl (fun K hK => ?_) (AllReady.nil)
          go_simp
          go_wp2_with ((go_at_call 8; refine (y3 _ hB15).mono ?_; rintro e v17 ⟨pd, rfl, hD17, hA17⟩))
          first | (refine hK _ _ ?_; clear hK K) | skip
          have hB17 := hD17.below
          have hZ17 := (hA17.block _ (block_lt hN15)).trans hN15
          refine wpAny_ready (rs := [17]) (by kernel_rfl) (by simp) ?_
          refine AllReady.cons rfl (fun K hK => ?_) (AllReady.nil)
          go_simp
          go_wp2_with ((go_at_call 14; refine (y4 _ _ hD17).mono ?_; rintro e v18 ⟨rfl, hA18⟩))
          first | (refine hK _ _ ?_; clear hK K) | skip
          have hB18 := (hD17.kept hA18).below
          have hZ18 := (hA18.block _ (block_lt hZ17)).trans hZ17
          refine wpAny_ready (rs := [19]) (by kernel_rfl) (by simp) ?_
          refine AllReady.cons rfl (fun K hK => ?_) (AllReady.nil)
          obtain ⟨r0, r1, r2, r3, r4, r5⟩ := six_cells hZ18
          obtain ⟨g0, g1, g2, g3, g4, g5⟩ := six_frozen hZ18
          have lz := block_lt hZ18
          have fz := six_set (.bool A.whole) (.int .u32 A.seq) (.int .i64 A.freq) (.bool B.whole) (.int .u32 B.seq) (.int .i64 B.freq) hZ18
          have bz := six_below hB18 hW15 (.bool A.whole) (.int .u32 A.seq) (.int .i64 A.freq) (.bool B.whole) (.int .u32 B.seq) (.int .i64 B.freq)
          go_simp
          (refine hK _ _ ?_; clear hK K)
          refine wpAny_done (by kernel_rfl) ?_ _
          go_wp2_with fail
          go_meet
          exact ⟨v5.heap.size, rfl, fz, bz⟩
      · go_simp
        (refine hK _ _ ?_; clear hK K)
        have hW19 := hBd.size
        have hB19 := hBd.alloc hBd.size (.cells #[.bool false, .int .u32 0, .int .i64 0, .bool false, .int .u32 0, .int .i64 0] 36)
        have hA19 : Below wd.heap.size wd (wd.alloc (.cells #[.bool false, .int .u32 0, .int .i64 0, .bool false, .int .u32 0, .int .i64 0] 36)) := (Below.refl _ _).alloc (Nat.le_refl _) _
        have hN19 := heap_alloc_new wd (.cells #[.bool false, .int .u32 0, .int .i64 0, .bool false, .int .u32 0, .int .i64 0] 36)
        generalize wd.alloc (.cells #[.bool false, .int .u32 0, .int .i64 0, .bool false, .int .u32 0, .int .i64 0] 36) = v19 at *
        refine wpAny_ready (rs := [8]) (by kernel_rfl) (by simp) ?_
        refine AllReady.cons rfl (fun K hK => ?_) (AllReady.nil)
        go_simp
        (refine hK _ _ ?_; clear hK K)
        have hW20 := hB19.size
        have hB20 := hB19.alloc hB19.size (.cells #[.int .u8 (bits .xor .u8 (byteAt L j) by_)] 5)
        have hA20 : Below v19.heap.size v19 (v19.alloc (.cells #[.int .u8 (bits .xor .u8 (byteAt L j) by_)] 5)) := (Below.refl _ _).alloc (Nat.le_refl _) _
        have hN20 := heap_alloc_new v19 (.cells #[.int .u8 (bits .xor .u8 (byteAt L j) by_)] 5)
        have hZ20 := (hA20.block _ (block_lt hN19)).trans hN19
        generalize v19.alloc (.cells #[.int .u8 (bits .xor .u8 (byteAt L j) by_)] 5) = v20 at *
        refine wpAny_ready (rs := [9]) (by kernel_rfl) (by simp) ?_
        refine AllReady.cons rfl (fun K hK => ?_) (AllReady.nil)
        have cv21 := one_byte_at v20 v19.heap.size (bits .xor .u8 (byteAt L j) by_) (by simp [World.cell?, hN20])
        go_simp
        (refine hK _ _ ?_; clear hK K)
        refine wpAny_take (i := 10) (v := .string (bs (cut L 0 j ++ [b8 (bits .xor .u8 (byteAt L j) by_)]))) rfl (by kernel_rfl) (by kernel_rfl) (by kernel_rfl) (fun _ _ _ h => h) (Or.inl ⟨by rfl, fun w => by go_simp⟩) ?_
        refine wpAny_take (i := 15) (v := .string (bs T)) rfl (by kernel_rfl) (by kernel_rfl) (by kernel_rfl) (fun _ _ _ h => h) (Or.inl ⟨by rfl, fun w => by go_simp⟩) ?_
        refine wpAny_ready (rs := [16]) (by kernel_rfl) (by simp) ?_
        refine AllReady.cons rfl (fun K hK => ?_) (AllReady.nil)
        go_simp
        go_wp2_with ((go_at_call 8; refine (y3 _ hB20).mono ?_; rintro e v22 ⟨pd, rfl, hD22, hA22⟩))
        first | (refine hK _ _ ?_; clear hK K) | skip
        have hB22 := hD22.below
        have hZ22 := (hA22.block _ (block_lt hZ20)).trans hZ20
        refine wpAny_ready (rs := [17]) (by kernel_rfl) (by simp) ?_
        refine AllReady.cons rfl (fun K hK => ?_) (AllReady.nil)
        go_simp
        go_wp2_with ((go_at_call 14; refine (y4 _ _ hD22).mono ?_; rintro e v23 ⟨rfl, hA23⟩))
        first | (refine hK _ _ ?_; clear hK K) | skip
        have hB23 := (hD22.kept hA23).below
        have hZ23 := (hA23.block _ (block_lt hZ22)).trans hZ22
        refine wpAny_ready (rs := [19]) (by kernel_rfl) (by simp) ?_
        refine AllReady.cons rfl (fun K hK => ?_) (AllReady.nil)
        obtain ⟨r0, r1, r2, r3, r4, r5⟩ := six_cells hZ23
        obtain ⟨g0, g1, g2, g3, g4, g5⟩ := six_frozen hZ23
        have lz := block_lt hZ23
        have fz := six_set (.bool A.whole) (.int .u32 A.seq) (.int .i64 A.freq) (.bool B.whole) (.int .u32 B.seq) (.int .i64 B.freq) hZ23
        have bz := six_below hB23 hW19 (.bool A.whole) (.int .u32 A.seq) (.int .i64 A.freq) (.bool B.whole) (.int .u32 B.seq) (.int .i64 B.freq)
        go_simp
        (refine hK _ _ ?_; clear hK K)
        refine wpAny_done (by kernel_rfl) ?_ _
        go_wp2_with fail
        go_meet
        exact ⟨wd.heap.size, rfl, fz, bz⟩
    case rest =>
      obtain ⟨bk, rfl, hZx, hBx⟩ := hcut
      go_wp2_with fail
      refine wp_region_any (by kernel_rfl) ?_
      change wpAny _ _ _ _ _ _ _ (World.drew wc)
      have hBd := hBx.drew
      have hZd : (World.drew wc).heap[bk]? = _ := hZx
      generalize World.drew wc = wd at *
      refine wpAny_take (i := 0) (v := .string (bs L)) rfl (by kernel_rfl) (by kernel_rfl) (by kernel_rfl) (fun _ _ _ h => h) (Or.inl ⟨by rfl, fun w => by go_simp⟩) ?_
      refine wpAny_take (i := 1) (v := .int .i64 j) rfl (by kernel_rfl) (by kernel_rfl) (by kernel_rfl) (fun _ _ _ h => h) (Or.inl ⟨by rfl, fun w => by go_simp⟩) ?_
      refine wpAny_take (i := 2) (v := .string (bs (cut L 0 j))) rfl (by kernel_rfl) (by kernel_rfl) (by kernel_rfl) (fun _ _ _ h => h) (Or.inl ⟨by rfl, fun w => by go_simp⟩) ?_
      refine wpAny_take (i := 3) (v := .string (bs L)) rfl (by kernel_rfl) (by kernel_rfl) (by kernel_rfl) (fun _ _ _ h => h) (Or.inl ⟨by rfl, fun w => by go_simp⟩) ?_
      refine wpAny_take (i := 4) (v := .int .i64 j) rfl (by kernel_rfl) (by kernel_rfl) (by kernel_rfl) (fun _ _ _ h => h) (Or.inl ⟨by rfl, fun w => by go_simp⟩) ?_
      refine wpAny_take (i := 5) (v := .int .u8 (byteAt L j)) rfl (by kernel_rfl) (by kernel_rfl) (by kernel_rfl) (fun _ _ _ h => h) (Or.inl ⟨by rfl, fun w => by go_simp⟩) ?_
      refine wpAny_take (i := 6) (v := .int .u8 by_) rfl (by kernel_rfl) (by kernel_rfl) (by kernel_rfl) (fun _ _ _ h => h) (Or.inl ⟨by rfl, fun w => by go_simp⟩) ?_
      refine wpAny_take (i := 7) (v := .int .u8 (bits .xor .u8 (byteAt L j) by_)) rfl (by kernel_rfl) (by kernel_rfl) (by kernel_rfl) (fun _ _ _ h => h) (Or.inl ⟨by rfl, fun w => by go_simp⟩) ?_
      refine wpAny_take (i := 11) (v := .string (bs L)) rfl (by kernel_rfl) (by kernel_rfl) (by kernel_rfl) (fun _ _ _ h => h) (Or.inl ⟨by rfl, fun w => by go_simp⟩) ?_
      refine wpAny_take (i := 12) (v := .int .i64 j) rfl (by kernel_rfl) (by kernel_rfl) (by kernel_rfl) (fun _ _ _ h => h) (Or.inl ⟨by rfl, fun w => by go_simp⟩) ?_
      refine wpAny_take (i := 13) (v := .int .i64 ((j : Int) + 1)) rfl (by kernel_rfl) (by kernel_rfl) (by kernel_rfl) (fun _ _ _ h => h) (Or.inl ⟨by rfl, fun w => by go_simp⟩) ?_
      refine wpAny_take (i := 14) (v := .string (bs (L.drop (j + 1)))) rfl (by kernel_rfl) (by kernel_rfl) (by kernel_rfl) (fun _ _ _ h => h) (Or.inl ⟨by rfl, fun w => by go_simp⟩) ?_
      refine wpAny_ready (rs := [8]) (by kernel_rfl) (by simp) ?_
      refine AllReady.cons rfl (fun K hK => ?_) (AllReady.nil)
      go_simp
      (refine hK _ _ ?_; clear hK K)
      have hW1 := hBd.size
      have hB1 := hBd.alloc hBd.size (.cells #[.int .u8 (bits .xor .u8 (byteAt L j) by_)] 5)
      have hA1 : Below wd.heap.size wd (wd.alloc (.cells #[.int .u8 (bits .xor .u8 (byteAt L j) by_)] 5)) := (Below.refl _ _).alloc (Nat.le_refl _) _
      have hN1 := heap_alloc_new wd (.cells #[.int .u8 (bits .xor .u8 (byteAt L j) by_)] 5)
      have hZ1 := (hA1.block _ (block_lt hZd)).trans hZd
      generalize wd.alloc (.cells #[.int .u8 (bits .xor .u8 (byteAt L j) by_)] 5) = v1 at *
      refine wpAny_ready (rs := [9]) (by kernel_rfl) (by simp) ?_
      refine AllReady.cons rfl (fun K hK => ?_) (AllReady.nil)
      have cv2 := one_byte_at v1 wd.heap.size (bits .xor .u8 (byteAt L j) by_) (by simp [World.cell?, hN1])
      go_simp
      (refine hK _ _ ?_; clear hK K)
      refine wpAny_take (i := 10) (v := .string (bs (cut L 0 j ++ [b8 (bits .xor .u8 (byteAt L j) by_)]))) rfl (by kernel_rfl) (by kernel_rfl) (by kernel_rfl) (fun _ _ _ h => h) (Or.inl ⟨by rfl, fun w => by go_simp⟩) ?_
      refine wpAny_take (i := 15) (v := .string (bs T)) rfl (by kernel_rfl) (by kernel_rfl) (by kernel_rfl) (fun _ _ _ h => h) (Or.inl ⟨by rfl, fun w => by go_simp⟩) ?_
      refine wpAny_ready (rs := [16]) (by kernel_rfl) (by simp) ?_
      refine AllReady.cons rfl (fun K hK => ?_) (AllReady.nil)
      go_simp
      go_wp2_with ((go_at_call 8; refine (y3 _ hB1).mono ?_; rintro e v3 ⟨pd, rfl, hD3, hA3⟩))
      first | (refine hK _ _ ?_; clear hK K) | skip
      have hB3 := hD3.below
      have hZ3 := (hA3.block _ (block_lt hZ1)).trans hZ1
      refine wpAny_ready (rs := [17]) (by kernel_rfl) (by simp) ?_
      refine AllReady.cons rfl (fun K hK => ?_) (AllReady.nil)
      go_simp
      go_wp2_with ((go_at_call 10; refine (y5 _ _ hD3).mono ?_; rintro e v4 ⟨rfl, hA4⟩))
      first | (refine hK _ _ ?_; clear hK K) | skip
      have hB4 := (hD3.kept hA4).below
      have hZ4 := (hA4.block _ (block_lt hZ3)).trans hZ3
      refine wpAny_take (i := 18) (v := .tuple #[.int .i64 lo, .bool true]) rfl (by kernel_rfl) (by kernel_rfl) (by kernel_rfl) (fun _ _ _ h => h) (Or.inl ⟨by rfl, fun w => by go_simp⟩) ?_
      refine wpAny_take (i := 19) (v := .int .i64 lo) rfl (by kernel_rfl) (by kernel_rfl) (by kernel_rfl) (fun _ _ _ h => h) (Or.inl ⟨by rfl, fun w => by go_simp⟩) ?_
      refine wpAny_take (i := 20) (v := .bool true) rfl (by kernel_rfl) (by kernel_rfl) (by kernel_rfl) (fun _ _ _ h => h) (Or.inl ⟨by rfl, fun w => by go_simp⟩) ?_
      refine wpAny_take (i := 21) (v := .int .i64 lo) rfl (by kernel_rfl) (by kernel_rfl) (by kernel_rfl) (fun _ _ _ h => h) (Or.inl ⟨by rfl, fun w => by go_simp⟩) ?_
      refine wpAny_take (i := 22) (v := .bool true) rfl (by kernel_rfl) (by kernel_rfl) (by kernel_rfl) (fun _ _ _ h => h) (Or.inl ⟨by rfl, fun w => by go_simp⟩) ?_
      refine wpAny_done (by kernel_rfl) ?_ _
      have HB2 := hB4
      have HZ2 := hZ4
      obtain ⟨r0, r1, r2, r3, r4, r5⟩ := six_cells HZ2
      have lz := block_lt HZ2
      have i0 : (0 : Int) ≤ (j : Int) := by omega
      by_cases h16 : j < 16
      · obtain ⟨e1, e2, e3⟩ := left9.low h16
        rw [e1] at r0
        rw [e2] at r3
        subst e3
        have h16i : (j : Int) < 16 := by omega
        have d1 : (j : Int) / 16 = 0 := by omega
        have d2 : (j : Int).tdiv 16 = 0 := by rw [Int.tdiv_eq_ediv_of_nonneg i0]; exact d1
        clear e1 e2 left9
        go_wp2_with fail
        go_ret
        exact ⟨rfl, HB2⟩
      · obtain ⟨e1, e2, e3⟩ := left9.high (by omega)
        rw [e1] at r0
        rw [e2] at r3
        subst e3
        have h16i : ¬ (j : Int) < 16 := by omega
        have d1 : (j : Int) / 16 = 1 := by omega
        have d2 : (j : Int).tdiv 16 = 1 := by rw [Int.tdiv_eq_ediv_of_nonneg i0]; exact d1
        clear e1 e2 left9
        go_wp2_with fail
        go_ret
        exact ⟨rfl, HB2⟩
set_option maxRecDepth 100000 in
theorem lifted (os : Os) (started : os.Started) (H : Type) (enc : TypeId × Value → H) :
    ReturnsInHanded {} Try.checked os 4 .any (Rows.driftSpoiltSpec.pre6 enc Try.prog Try.f4 Rows.driftSpoiltRow.domain false) (Rows.driftSpoiltSpec.post enc Try.prog Try.f4 false true false false) := by
  refine returnsInHanded_of_change (C := Try.checked) own started (by kernel_rfl) Try.func4
    (ChangeSpec.witness6 (enc := enc) (C := Try.checked) false ⟨#[], #[.int .i64 0, .int .i64 0, .int .u8 0, .int .u8 0], []⟩ 8 (by kernel_rfl) (by kernel_rfl) (by kernel_rfl) (by kernel_rfl)) ?_
  intro W base args ds gs before hval0 hW hcnd _
  have hval : ∀ (j : Nat) t v, Try.f4.params[j]? = some t → args[j]? = some v → Value.okWide Try.prog W .any base t v := hval0
  have hW' := hW
  obtain ⟨p, q, hA0, hV, rfl, hfz, hnd⟩ := hW
  have hA : DataW.TrodAll enc Try.prog W 0 (fun _ => true) true Try.f4.params.toList args.toList ds p := hA0
  rw [Try.params4] at hA hval
  obtain ⟨v0, vs0, d0, ds0, p0, q0, hargs, rfl, rfl, h0, r0⟩ := trodAll_cons hA
  obtain ⟨v1, vs1, d1, ds1, p1, q1, rfl, rfl, rfl, h1, r1⟩ := trodAll_cons r0
  obtain ⟨v2, vs2, d2, ds2, p2, q2, rfl, rfl, rfl, h2, r2⟩ := trodAll_cons r1
  obtain ⟨v3, vs3, d3, ds3, p3, q3, rfl, rfl, rfl, h3, r3⟩ := trodAll_cons r2
  obtain ⟨rfl, rfl, rfl⟩ := trodAll_nil r3
  obtain rfl : args = #[v0, v1, v2, v3] := by cases args; simp_all
  obtain ⟨rfl, rfl⟩ := trodVars_none hV
  obtain ⟨a0, rfl, rfl, rfl, w0⟩ := open_int Try.underlying2 (hval 0 2 v0 rfl rfl) h0
  obtain ⟨a1, rfl, rfl, rfl, w1⟩ := open_int Try.underlying2 (hval 1 2 v1 rfl rfl) h1
  obtain ⟨a2, rfl, rfl, rfl, w2⟩ := open_int Try.underlying5 (hval 2 5 v2 rfl rfl) h2
  obtain ⟨a3, rfl, rfl, rfl, w3⟩ := open_int Try.underlying5 (hval 3 5 v3 rfl rfl) h3
  clear hA0 hval0
  refine (walk a0 a1 a2 a3 W w0 w1 w2 w3).mono fun e W' ⟨he, bel⟩ => ?_
  subst he
  exact ⟨_, rfl, _, _, _, [], _, [], hW', trodAll_mk1 (shut_bool Try.underlying4 _), (trodAll_cons_mk (shut_int Try.underlying2 w0) (trodAll_cons_mk (shut_int Try.underlying2 w1) (trodAll_cons_mk (shut_int Try.underlying5 w2) (trodAll_cons_mk (shut_int Try.underlying5 w3) trodAll_mk0)))), rfl, bel.frame _, fun h => by cases h⟩

theorem over : Rows.driftSpoiltRow.holds Try.pinned (OpenSpec.ofChange Rows.driftSpoiltSpec) :=
  OpenClaim.holds_of_wide 4 Try.f4 rfl rfl rfl rfl rfl rfl rfl ⟨rfl, rfl, rfl, rfl, rfl⟩ rfl rfl rfl rfl rfl (by kernel_rfl) Try.func4 (by kernel_rfl)
    (of_decide_eq_true (by kernel_rfl)) (by unfold Func.isWrapper; first | (rw [if_pos (by decide +kernel)]; kernel_rfl) | (rw [if_neg (by decide +kernel)]; exact ⟨rfl, rfl⟩))
    (fun os started H enc _ => lifted os started H enc)

theorem proved : Rows.DriftSpoiltSaid := over
end Go.Proofs.Ytcfdggeoecdnnaa.DriftSpoilt
