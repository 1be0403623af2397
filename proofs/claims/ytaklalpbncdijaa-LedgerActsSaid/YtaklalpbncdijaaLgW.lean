/- The code's own clock, walked: entries copied; corrections. -/
import Derived.Test.YtaklalpbncdijaaLgY
import Derived.Test.YtaklalpbncdijaaLgD
import Derived.Lib.AppendZeros
import Derived.Lib.SliceRun
import Derived.Laws.AppendOwnNone
import Derived.Laws.AppendOwn
namespace Go.Proofs.Ytaklalpbncdijaa.W
open Go.RowKit Go.Sort
set_option linter.unusedVariables false
set_option linter.unusedSimpArgs false
theorem info_EnC : (Try.prog.info? 63).map (fun i => (i.zero, i.size, i.bytes)) = some (some (.agg #[.int .i64 0, .int .i64 0, .bool false]), 3, 24) := by kernel_rfl
theorem zeros_size (z : Array Value) (n : Nat) : (Builtin.zeroCells z n).size = n * z.size := by simp [Builtin.zeroCells]
set_option maxHeartbeats 3200000 in
theorem cgrow_any (n : Nat) (n0 : 0 < n) (n1 : n ≤ 1000000) (w : World) :
    Calls Try.prog 46 #[.slice none 0 0, .int .i64 n] w fun e w' =>
      ∃ g cap, e = .returned (.slice (some ⟨g, 0, none⟩) 0 cap) ∧ n ≤ cap ∧ w'.ownsRow w.heap.size 63 3 (.slice (some ⟨g, 0, none⟩) 0 cap) 0 [] ∧ Below w.heap.size w w' := by
  obtain ⟨i0, hi0, hz0, hz1, hz2⟩ := info_parts info_EnC
  have h1 : ¬ ((n : Int) < 0) := by omega
  have h3 : wrap64 (n : Int) = (n : Int) := by unfold wrap64; omega
  have h4 : (n : Int) > 0 := by omega
  have h5 : (0 : Int) < (n : Int) := by omega
  have hrz : ∀ ty, (Builtin.append_ #[40, 3] ty #[.slice none 0 0, .int .i64 (n : Int)]).run Try.prog w = _ :=
    fun ty => Lib.run_append_nil_zeros w 40 3 ty 63 i0 _ .i64 .i64 Try.underlying40 Try.underlying3 hi0 hz0 n n0 (by rw [hz1]; decide) (by omega) (by rw [hz2]; omega)
  have hge := grownCap_ge w n 0 63
  have hle := grownCap_le_maxLen w n 0 63 (by unfold maxLen; omega)
  generalize grownCap w n 0 63 = G at *
  have hG63 : G ≤ 9223372036854775807 := by unfold maxLen at hle; omega
  generalize hC : Builtin.zeroCells (Value.agg #[.int .i64 0, .int .i64 0, .bool false]).cells n ++ Builtin.zeroCells (Value.agg #[.int .i64 0, .int .i64 0, .bool false]).cells (G - n) = C at *
  have hCs : C.size = G * 3 := by
    rw [← hC, Array.size_append, zeros_size, zeros_size]
    simp [Value.cells]
    omega
  have HC := Lib.hid hCs
  clear hC hCs
  go_enter Try.func46, Try.ntmps46
  go_wp2_with (at_builtin; refine Lib.wpList_append_run _ rfl _ _ _ _ rfl _ _ rfl rfl _ _ (hrz _) ?_)
  go_ret
  refine ⟨w.heap.size, G, rfl, hge, ⟨rfl, .inr ⟨_, G, C, rfl, Nat.le_refl _, ?_, Nat.zero_le _, hle, HC.out, by simp⟩⟩, ?_⟩
  · exact heap_alloc_new _ _
  · exact (Below.drew (Below.refl _ _)).alloc (Nat.le_of_eq rfl) _
set_option maxHeartbeats 3200000 in
theorem cclone_any {F : Nat → Prop} (l : List En) (hl : l.length ≤ 1000000) (v : Value) (w : World) (hs : SlAt F 3 enE w v l) (hF : ∀ k, F k → k < w.heap.size) :
    Calls Try.prog 30 #[v] w fun e w' => ∃ v', e = .returned v' ∧ SlAt (fun b => w.heap.size ≤ b ∧ b < w'.heap.size) 3 enE w' v' l ∧ Below w.heap.size w w' := by
  obtain ⟨i0, hi0, hz0, hz1, hz2⟩ := info_parts info_EnC
  have hk := hs.kept (w' := w.alloc (.cells #[] 63)) (fun b hb => Below.heap_alloc _ _ _ (hF b hb))
  rcases hk.src enE_length with ⟨rfl, rfl⟩ | ⟨ad, cap, rfl, hsrc⟩
  · clear hs hk
    have e0 := fun w => Lib.run_eql_slice_nil (P := Try.prog) w 40 63 none 0 0 0 0 Try.underlying40
    go_enter Try.func30, Try.ntmps30
    go_wp2
    go_ret
    exact ⟨_, rfl, .inl ⟨none, 0, rfl, fun _ => rfl, rfl⟩, Below.refl _ _⟩
  · clear hs hk
    have own0 := ownsRow_fresh w 63 3 w.heap.size (Nat.le_refl _)
    have e0 := fun w => Lib.run_eql_slice_nil (P := Try.prog) w 40 63 (some ad) l.length cap 0 0 Try.underlying40
    go_enter Try.func30, Try.ntmps30
    go_wp2_with (at_builtin; refine wpList_append_own _ rfl _ _ 40 rfl w.heap.size 63 i0 _ 3 24 Try.underlying40 hi0 hz0 hz1 hz2 rfl (by decide) _ _ _ rfl own0 ad l.length _ (l.flatMap enE) rfl (flat_length 3 enE enE_length l) hsrc (enE_all l) (by unfold maxLen; omega) (by omega) (by rw [World.size_alloc]; omega) ?_; intro v6 w6 own6 g6 _; rw [Nat.zero_add, List.nil_append] at own6)
    go_ret
    refine ⟨_, rfl, SlAt.own enE_length own6, ?_⟩
    exact ((Below.refl _ _).alloc (Nat.le_refl _) _).grown g6 (by simp) (fun g hg => (own0.lt g hg).1)
set_option maxHeartbeats 1600000 in
theorem cent_any {F : Nat → Prop} {p : Nat} {c : Ck} (ok : c.Ok) (w : World) (hc : CkIn F w p c) :
    Calls Try.prog 16 #[.pointer (some ⟨p, 0, none⟩)] w fun e w' => ∃ v, e = .returned v ∧ SlAt (fun b => w.heap.size ≤ b ∧ b < w'.heap.size) 3 enE w' v c.l ∧ Below w.heap.size w w' := by
  obtain ⟨hp, hF, v, hb, hs⟩ := hc
  have d := cclone_any c.l (by have := ok.l; omega) v w hs (fun k hk => hF k hk.1)
  obtain ⟨x, cp, rfl⟩ := hs.slice
  obtain ⟨q0, q1, q2, q3, _⟩ := clock_cells hb
  have hpl : p < w.heap.size := hF p hp
  clear hb hp hF hs
  go_enter Try.func16, Try.ntmps16
  go_wp2_with fail
  (with_reducible refine d.mono ?_)
  rintro e w' ⟨v', rfl, hs', hB⟩
  have D := Lib.hid (And.intro hs' hB)
  clear hs' hB
  go_wp2_with fail
  go_ret
  exact ⟨_, rfl, D.out.1, D.out.2⟩
set_option maxHeartbeats 6400000 in
theorem cconcat_any {F : Nat → Prop} (l : List En) (x : En) (hl : l.length ≤ 1000) (v : Value) (b1 b2 : Nat) (w : World) (hs : SlAt F 3 enE w v l) (hF : ∀ k, F k → k < w.heap.size)
    (h1 : ∀ j u, (enE x)[j]? = some u → w.cell? ((⟨b1, 0, none⟩ : Addr).add j) = some u) (l1 : b1 < w.heap.size)
    (h20 : w.cell? ⟨b2, 0, none⟩ = some v) (h21 : w.cell? ⟨b2, 1, none⟩ = some (.slice (some ⟨b1, 0, none⟩) 1 1)) (l2 : b2 < w.heap.size) :
    Calls Try.prog 35 #[.slice (some ⟨b2, 0, none⟩) 2 2] w fun e w' => ∃ v', e = .returned v' ∧ SlAt (fun b => w.heap.size ≤ b ∧ b < w'.heap.size) 3 enE w' v' (l ++ [x]) ∧ Below w.heap.size w w' := by
  obtain ⟨i0, hi0, hz0, hz1, hz2⟩ := info_parts info_EnC
  have g := cgrow_any (l.length + 1) (by omega) (by omega)
  obtain ⟨ax, cp, rfl⟩ := hs.slice
  have u1 : wrap64 ((l.length : Int) + 1) = ((l.length + 1 : Nat) : Int) := by unfold wrap64; omega
  have u2 : ¬ (((l.length + 1 : Nat) : Int) < 0) := by omega
  have HS := Lib.hid hs
  have H1 := Lib.hid h1
  clear hs h1
  go_enter Try.func35, Try.ntmps35
  go_wp2_with fail
  refine wp_loop_rounds 3 ?_
  rw [rounds_succ]
  go_wp2_with fail
  rw [rounds_succ]
  go_wp2_with fail
  rw [rounds_succ]
  go_wp2_with fail
  rw [show ((l.length : Int) + 1) = ((l.length + 1 : Nat) : Int) by omega]
  (with_reducible refine (g _).mono ?_)
  rintro e w1 ⟨gb, cap, rfl, hcap, own0, hB1⟩
  have SRC := Lib.hid ((HS.out.kept (fun b hb => hB1.block b (hF b hb))).src enE_length)
  have H1' := Lib.hid (show ∀ (j : Nat) (u : Value), (enE x)[j]? = some u → w1.cell? ((⟨b1, 0, none⟩ : Addr).add j) = some u from fun j u hu => by
    have e := H1.out j u hu
    rw [Addr.add_lit] at e ⊢
    exact ((bcell hB1).1 b1 _ l1).trans e)
  have h20' := ((bcell hB1).1 b2 0 l2).trans h20
  have h21' := ((bcell hB1).1 b2 1 l2).trans h21
  have z1 := hB1.size
  have hlen : (List.flatMap enE l ++ enE x) = (l ++ [x]).flatMap enE := by simp
  clear h20 h21 H1 HS g
  rcases SRC.out with ⟨hv, rfl⟩ | ⟨ad, cap', hv, hsrc⟩
  · obtain ⟨rfl, _, rfl⟩ := Value.slice.inj hv
    clear SRC
    go_wp2_with fail
    refine wp_loop_rounds 3 ?_
    rw [rounds_succ]
    go_wp2_with fail
    rw [rounds_succ]
    go_wp2_with (at_builtin; refine wpList_append_own _ rfl _ _ 40 rfl w.heap.size 63 i0 _ 3 24 Try.underlying40 hi0 hz0 hz1 hz2 rfl (by decide) _ _ _ rfl own0 ⟨b1, 0, none⟩ 1 1 (enE x) rfl rfl H1'.out (enE_one x) (by unfold maxLen; omega) (by omega) (by omega) ?_; intro v7 w7 own7 g7 _)
    rw [rounds_succ]
    go_wp2_with fail
    go_ret
    rw [Nat.zero_add, List.nil_append] at own7
    refine ⟨_, rfl, SlAt.own enE_length (l := [x]) (by simpa using own7), hB1.grown g7 z1 (fun g hg => (own0.lt g hg).1)⟩
  · obtain ⟨rfl, _, rfl⟩ := Value.slice.inj hv
    clear SRC hv
    have HL := Lib.hid hlen
    have SR := Lib.hid hsrc
    clear hlen hsrc
    have o0 := (own0.lt gb rfl).1
    go_wp2_with fail
    refine wp_loop_rounds 3 ?_
    rw [rounds_succ]
    go_wp2_with (at_builtin; refine wpList_append_own _ rfl _ _ 40 rfl w.heap.size 63 i0 _ 3 24 Try.underlying40 hi0 hz0 hz1 hz2 rfl (by decide) _ _ _ rfl own0 ad l.length _ (l.flatMap enE) rfl (flat_length 3 enE enE_length l) SR.out (enE_all l) (by unfold maxLen; omega) (by omega) (by omega) ?_; intro v6 w6 own6 g6 _; rw [Nat.zero_add, List.nil_append] at own6)
    have g6' : w1.grownBy w6 (some gb) := g6
    clear g6
    have hB6 := hB1.grown g6' z1 (fun g hg => (own0.lt g hg).1)
    have z6 := hB6.size
    have H1'' := Lib.hid (show ∀ (j : Nat) (u : Value), (enE x)[j]? = some u → w6.cell? ((⟨b1, 0, none⟩ : Addr).add j) = some u from fun j u hu => by
      have e := H1'.out j u hu
      rw [Addr.add_lit] at e ⊢
      exact (cell_same (g6'.block b1 (by omega) (fun e => by cases e; omega)) _).trans e)
    have h21'' := (cell_same (g6'.block b2 (by omega) (fun e => by cases e; omega)) 1).trans h21'
    clear h20' h21' H1' own0 g6'
    rw [rounds_succ]
    go_wp2_with (at_builtin; refine wpList_append_own _ rfl _ _ 40 rfl w.heap.size 63 i0 _ 3 24 Try.underlying40 hi0 hz0 hz1 hz2 rfl (by decide) _ _ _ rfl own6 ⟨b1, 0, none⟩ 1 1 (enE x) rfl rfl H1''.out (enE_one x) (by unfold maxLen; omega) (by omega) (by omega) ?_; intro v7 w7 own7 g7 _)
    rw [rounds_succ]
    go_wp2_with fail
    go_ret
    refine ⟨_, rfl, SlAt.own enE_length (by rw [List.length_append, ← HL.out]; exact own7), hB6.grown g7 z6 (fun g hg => (own6.lt g hg).1)⟩
end Go.Proofs.Ytaklalpbncdijaa.W
