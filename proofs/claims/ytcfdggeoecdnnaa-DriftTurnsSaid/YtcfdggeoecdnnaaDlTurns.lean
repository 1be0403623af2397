/- DriftTurns: for every list of at most 60 frequencies and every text of at most 100 bytes saves go to both slots in turns: behind two of them the one ahead is still there; numbers go up by one. (A longer list or text is let go by the statement itself.) No condition. -/
import Derived.Test.YtcfdggeoecdnnaaDrK
import Derived.Test.YtcfdggeoecdnnaaRowS
import Derived.WalkKit
import Derived.WalkSpells
import Derived.WalkLawsBesides
import Derived.Lib.Hide
import Derived.Handy
import Derived.ProofKit
import Derived.OpenShut
import Derived.ShutString
import Derived.ChangeOld
import Derived.Below
namespace Go.Proofs.Ytcfdggeoecdnnaa.DriftTurns
open Go.Proofs.Ytcfdggeoecdnnaa.W
open Go.ChangeShapes Go.WideShapes Go.ChangeAt Go.RowKit
open Go.ChangeMaps (open_string shut_string)
set_option linter.unusedVariables false
theorem own : ownKnob Try.prog.godebug = none := by kernel_rfl
theorem laidOut : laidOutB Try.prog = true := by kernel_rfl
open Go.Sort
set_option linter.unusedSimpArgs false
theorem six_cells {w : World} {p : Nat} {a b c d e f : Value} {t : TypeId} (h : w.heap[p]? = some (.cells #[a, b, c, d, e, f] t (0, 0))) :
    w.cell? ⟨p, 0, none⟩ = some a ∧ w.cell? ⟨p, 1, none⟩ = some b ∧ w.cell? ⟨p, 2, none⟩ = some c ∧ w.cell? ⟨p, 3, none⟩ = some d ∧ w.cell? ⟨p, 4, none⟩ = some e ∧ w.cell? ⟨p, 5, none⟩ = some f := by
  refine ⟨?_, ?_, ?_, ?_, ?_, ?_⟩ <;> simp [World.cell?, h]
set_option maxRecDepth 100000 in
set_option maxHeartbeats 12800000 in
theorem walk (a1 : Option Addr) (len1 cap1 : Nat) (zs : List Int) (s : ByteArray) (w : World) (w1 : IsRow .i64 w a1 len1 cap1 zs) (w0 : s.size ≤ maxLen) :
    Calls Try.prog 5 #[.slice a1 len1 cap1, .string s] w fun e w' => e = .returned (.bool true) ∧ Below w.heap.size w w' := by
  obtain ⟨z, rfl, hz, iv⟩ := w1.sl
  clear w1
  have cz := shown9_any
  have IV := Lib.hid iv
  have HZ := Lib.hid hz
  clear iv hz
  obtain ⟨sz, hsz⟩ : ∃ n : Nat, s.size = n := ⟨_, rfl⟩
  by_cases hl2 : 60 < z.length
  · have hl2i : 60 < (z.length : Int) := by omega
    go_enter Try.func5, Try.ntmps5
    go_wp2_with fail
    (with_reducible refine (cz _).mono ?_)
    rintro e w1 ⟨rfl, hB⟩
    go_wp2_with fail
    go_ret
    exact ⟨rfl, hB⟩
  · have hl2i : ¬ 60 < (z.length : Int) := by omega
    by_cases hl : 100 < s.size
    · have hli : 100 < (s.size : Int) := by omega
      go_enter Try.func5, Try.ntmps5
      go_wp2_with fail
      (with_reducible refine (cz _).mono ?_)
      rintro e w1 ⟨rfl, hB⟩
      go_wp2_with fail
      go_ret
      exact ⟨rfl, hB⟩
    · have hli : ¬ 100 < (s.size : Int) := by omega
      have cn := fun w' (h : Below w.heap.size w w') => dnew_any s.data.toList (by
        have : s.data.toList.length = s.size := rfl
        omega) w w' h
      rw [bs_data] at cn
      have hlv := newD_live s.data.toList
      generalize newD s.data.toList = d0 at *
      go_enter Try.func5, Try.ntmps5
      go_wp2_with fail
      (with_reducible refine (cz _).mono ?_)
      rintro e w1 ⟨rfl, hB1⟩
      go_wp2_with fail
      (with_reducible refine (cn _ hB1).mono ?_)
      rintro e w2 ⟨p, rfl, h2, _⟩
      clear cn hB1
      go_wp2_with fail
      go_loopw [6] (fun i wr => ∃ (j : Nat) (d : Dk), j ≤ z.length ∧ i = .int .i64 j ∧ Live d ∧ OneD w wr p d) (fun i _ => z.length - (intOf i).toNat)
      case atStart => exact ⟨0, d0, Nat.zero_le _, rfl, hlv, h2⟩
      case round =>
        obtain ⟨j, d, hj, rfl, lv, h3⟩ := hrel
        by_cases hlt : j < z.length
        · obtain ⟨y, hy, hym⟩ := at_index z j hlt
          rcases IV.out with ⟨_, _, _, _, rfl⟩ | ⟨b, off, cap, hv, hbl, hc⟩
          · simp at hlt
          · simp only [Value.slice.injEq] at hv
            obtain ⟨rfl, _, rfl⟩ := hv
            have y01 := i64_bounds (HZ.out y hym)
            have cw : w.cell? ⟨b, off + j, none⟩ = some (.int .i64 y) := by
              have := hc j y hy 0 _ rfl
              rw [Nat.mul_one, Nat.add_zero] at this
              exact this
            have i0 : (0 : Int) ≤ (j : Int) := by omega
            have i1 : (j : Int) < (z.length : Int) := by omega
            obtain ⟨v1, lv2, es⟩ := live_save lv y
            have y1 := dslots_any h3
            have y2 := fun w' (h : OneD w w' p d) => dload_any h
            obtain ⟨F, kF, fF⟩ := h3.one
            have hlt3 := kF.lt
            have y3 := fun w' (h : DkIn F w' p d) => ksave_any lv.ok y y01.1 y01.2 w' h
            have y4 := fun w' (h : OneD w w' p (savD d y)) => dslots_any h
            rw [v1] at y3
            have tn := turns lv.ok.s y y01.1 y01.2
            rw [es] at y4
            generalize savD d y = d2 at *
            generalize slA d.s = A at *
            generalize slB d.s = B at *
            generalize slA (put16 d.s (target d.s) (packS d.s y)) = A2 at *
            generalize slB (put16 d.s (target d.s) (packS d.s y)) = B2 at *
            generalize loadV d.s = lo at *
            generalize loadB d.s = had at *
            have gE := sl_eql B2 B
            have gN0 := sl_neq A2 A
            have gN1 := sl_neq B2 B
            unfold slV at gE gN0 gN1
            clear hc hy v1 es
            go_wp2_with fail
            (with_reducible refine y1.mono ?_)
            clear y1
            rintro e w4 ⟨rfl, hB4⟩
            have hn4 : ¬ F w4.heap.size := fun h => by have := hlt3 _ h; have := hB4.size; omega
            have hB34 := hB4.trans (Below.alloc (Below.refl _ _) (Nat.le_refl _) (.cells #[.bool A.whole, .int .u32 A.seq, .int .i64 A.freq, .bool B.whole, .int .u32 B.seq, .int .i64 B.freq] 36) |>.mono hB4.size)
            have h4 := h3.kept (hB4.trans (Below.alloc (Below.refl _ _) (Nat.le_refl _) (.cells #[.bool A.whole, .int .u32 A.seq, .int .i64 A.freq, .bool B.whole, .int .u32 B.seq, .int .i64 B.freq] 36) |>.mono hB4.size))
            have b4 := heap_alloc_new w4 (.cells #[.bool A.whole, .int .u32 A.seq, .int .i64 A.freq, .bool B.whole, .int .u32 B.seq, .int .i64 B.freq] 36)
            have z4 := World.size_alloc w4 (.cells #[.bool A.whole, .int .u32 A.seq, .int .i64 A.freq, .bool B.whole, .int .u32 B.seq, .int .i64 B.freq] 36)
            go_wp2_with fail
            (with_reducible refine (y2 _ h4).mono ?_)
            generalize w4.alloc (.cells #[.bool A.whole, .int .u32 A.seq, .int .i64 A.freq, .bool B.whole, .int .u32 B.seq, .int .i64 B.freq] 36) = w4' at *
            clear y2
            rintro e w5 ⟨rfl, hB5⟩
            have h5 := h4.kept hB5
            have b5 := (hB5.block w4.heap.size (by omega)).trans b4
            have z5 := hB5.size
            have c5 : w5.cell? ⟨b, off + j, none⟩ = some (.int .i64 y) := ((bcell h5.below).1 b _ hbl).trans cw
            have kF5 := kF.below (hB34.trans (hB5.mono hB34.size))
            have hB5w := h5.below
            clear h4 b4 hB4 h3 kF
            go_wp2_with fail
            (with_reducible refine (y3 _ kF5).mono ?_)
            clear y3
            rintro e w6 ⟨rfl, k6, t6⟩
            have h6 := OneD.step fF hB5w t6 k6 lv2.ok
            have b6 := (t6.block w4.heap.size (by omega) hn4).trans b5
            have z6 := t6.size
            have y4 := y4 _ h6
            clear c5 h5 k6 t6 kF5 hB34 b5
            go_wp2_with fail
            (with_reducible refine y4.mono ?_)
            clear y4
            rintro e w7 ⟨rfl, hB7⟩
            have hB78 := hB7.trans (Below.alloc (Below.refl _ _) (Nat.le_refl _) (.cells #[.bool A2.whole, .int .u32 A2.seq, .int .i64 A2.freq, .bool B2.whole, .int .u32 B2.seq, .int .i64 B2.freq] 36) |>.mono hB7.size)
            have h8 := h6.kept hB78
            have b7 := (hB78.block w4.heap.size (by omega)).trans b6
            have b8 := heap_alloc_new w7 (.cells #[.bool A2.whole, .int .u32 A2.seq, .int .i64 A2.freq, .bool B2.whole, .int .u32 B2.seq, .int .i64 B2.freq] 36)
            have z8 := World.size_alloc w7 (.cells #[.bool A2.whole, .int .u32 A2.seq, .int .i64 A2.freq, .bool B2.whole, .int .u32 B2.seq, .int .i64 B2.freq] 36)
            have z7 := hB7.size
            have c8 : (w7.alloc (.cells #[.bool A2.whole, .int .u32 A2.seq, .int .i64 A2.freq, .bool B2.whole, .int .u32 B2.seq, .int .i64 B2.freq] 36)).cell? ⟨b, off + j, none⟩ = some (.int .i64 y) := ((bcell h8.below).1 b _ hbl).trans cw
            obtain ⟨p0, p1, p2, p3, p4, p5⟩ := six_cells b7
            obtain ⟨q0, q1, q2, q3, q4, q5⟩ := six_cells b8
            clear hB7 hB78 h6 b6 b7 b8
            rcases tn with ⟨rfl, rfl, rfl, rfl, hne⟩ | ⟨rfl, rfl, rfl, rfl⟩ | ⟨rfl, rfl⟩
            · have hw : IntKind.u32.wrap (A2.seq + 1) = (A2.seq + 1) % 4294967296 := by rw [IntKind.wrap_u32]
              rw [hne] at gE
              rw [(slEq_iff _ _).2 rfl] at gN0
              clear gN1 hne
              generalize (A2.seq + 1) % 4294967296 = sq at *
              go_wp2_with fail
              go_quiet (fail)
              go_wp2_with fail
              go_roundw
              case rel => exact ⟨j + 1, _, by omega, by go_num, lv2, h8.kept (below_drewN (Below.refl _ _) _)⟩
              case measure => simp [intOf]; omega
            · have hw : IntKind.u32.wrap (B2.seq + 1) = (B2.seq + 1) % 4294967296 := by rw [IntKind.wrap_u32]
              rw [(slEq_iff _ _).2 rfl] at gE gN1
              clear gN0
              generalize (B2.seq + 1) % 4294967296 = sq at *
              go_wp2_with fail
              go_quiet (fail)
              go_wp2_with fail
              go_roundw
              case rel => exact ⟨j + 1, _, by omega, by go_num, lv2, h8.kept (below_drewN (Below.refl _ _) _)⟩
              case measure => simp [intOf]; omega
            · clear gE gN0 gN1
              go_wp2_with fail
              go_quiet (fail)
              go_wp2_with fail
              go_roundw
              case rel => exact ⟨j + 1, _, by omega, by go_num, lv2, h8.kept (below_drewN (Below.refl _ _) _)⟩
              case measure => simp [intOf]; omega
        · obtain rfl : j = z.length := by omega
          have y1 := dbytes_any h3
          have hs : (bs d.s).size = 32 := by rw [bs_size, lv.ok.s]
          generalize bs d.s = S at *
          go_wp2_with fail
          (with_reducible refine y1.mono ?_)
          rintro e w4 ⟨rfl, hB4⟩
          have h4 := h3.kept hB4
          go_wp2_with fail
          go_ret
          exact ⟨rfl, h4.below⟩
set_option maxRecDepth 100000 in
theorem lifted (os : Os) (started : os.Started) (H : Type) (enc : TypeId × Value → H) :
    ReturnsInHanded {} Try.checked os 5 .any (Rows.driftTurnsSpec.pre6 enc Try.prog Try.f5 Rows.driftTurnsRow.domain false) (Rows.driftTurnsSpec.post enc Try.prog Try.f5 false true false false) := by
  refine returnsInHanded_of_change (C := Try.checked) own started (by kernel_rfl) Try.func5
    (ChangeSpec.witness6 (enc := enc) (C := Try.checked) false ⟨#[], #[.slice none 0 0, .string ByteArray.empty], []⟩ 8 (by kernel_rfl) (by kernel_rfl) (by kernel_rfl) (by kernel_rfl)) ?_
  intro W base args ds gs before hval0 hW hcnd _
  have hval : ∀ (j : Nat) t v, Try.f5.params[j]? = some t → args[j]? = some v → Value.okWide Try.prog W .any base t v := hval0
  have hW' := hW
  obtain ⟨p, q, hA0, hV, rfl, hfz, hnd⟩ := hW
  have hA : DataW.TrodAll enc Try.prog W 0 (fun _ => true) true Try.f5.params.toList args.toList ds p := hA0
  rw [Try.params5] at hA hval
  obtain ⟨v0, vs0, d0, ds0, p0, q0, hargs, rfl, rfl, h0, r0⟩ := trodAll_cons hA
  obtain ⟨v1, vs1, d1, ds1, p1, q1, rfl, rfl, rfl, h1, r1⟩ := trodAll_cons r0
  obtain ⟨rfl, rfl, rfl⟩ := trodAll_nil r1
  obtain rfl : args = #[v0, v1] := by cases args; simp_all
  obtain ⟨rfl, rfl⟩ := trodVars_none hV
  obtain ⟨a0, len0, cap0, rfl⟩ := okWide_slice Try.underlying22 (hval 0 22 v0 rfl rfl)
  have k0 := h0
  have lt0 : ∀ x ∈ p0, x.block < W.heap.size := by obtain ⟨m, hm⟩ := k0; exact DataW.trod_lt m _ _ _ hm
  obtain ⟨z0, w0⟩ : ∃ zs, IsRow .i64 W a0 len0 cap0 zs := by
    obtain ⟨fuel, hf⟩ := h0
    rcases open_ints Try.underlying22 Try.underlying2 (by kernel_rfl) hf with ⟨hcs, _⟩ | ⟨x, l, c, zs, hcs, _, hl, hm, hz, _, hcell, hwz⟩
    · simp [Value.cells] at hcs
      obtain ⟨rfl, rfl, rfl⟩ := hcs
      exact ⟨[], .inl ⟨rfl, rfl, rfl, rfl⟩⟩
    · simp [Value.cells] at hcs
      obtain ⟨rfl, rfl, rfl⟩ := hcs
      exact ⟨zs, .inr ⟨_, rfl, hl, hm, by simpa using hz, hcell, hwz⟩⟩
  obtain ⟨a1, rfl, rfl, rfl, w1⟩ := open_string Try.underlying9 (hval 1 9 v1 rfl rfl) h1
  clear hA0 hval0
  refine (walk a0 len0 cap0 z0 a1 W w0 w1).mono fun e W' ⟨he, bel⟩ => ?_
  subst he
  exact ⟨_, rfl, _, _, _, [], _, [], hW', trodAll_mk1 (shut_bool Try.underlying4 _), (trodAll_cons_mk (Below.trod laidOut (by kernel_rfl) (of_decide_eq_true (by kernel_rfl)) k0 bel lt0) (trodAll_cons_mk (shut_string Try.underlying9 w1) trodAll_mk0)), rfl, bel.frame _, fun h => by cases h⟩

theorem over : Rows.driftTurnsRow.holds Try.pinned (OpenSpec.ofChange Rows.driftTurnsSpec) :=
  OpenClaim.holds_of_wide 5 Try.f5 rfl rfl rfl rfl rfl rfl rfl ⟨rfl, rfl, rfl, rfl, rfl⟩ rfl rfl rfl rfl rfl (by kernel_rfl) Try.func5 (by kernel_rfl)
    (of_decide_eq_true (by kernel_rfl)) (by unfold Func.isWrapper; first | (rw [if_pos (by decide +kernel)]; kernel_rfl) | (rw [if_neg (by decide +kernel)]; exact ⟨rfl, rfl⟩))
    (fun os started H enc _ => lifted os started H enc)

theorem proved : Rows.DriftTurnsSaid := over
end Go.Proofs.Ytcfdggeoecdnnaa.DriftTurns
