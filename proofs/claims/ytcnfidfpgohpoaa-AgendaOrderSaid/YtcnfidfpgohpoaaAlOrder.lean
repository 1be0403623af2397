/- AgendaOrder: for every list of calls within the statement's own bound, and every time, what is taken by that time is in order, all of it that is due, and nothing else. (A list beyond the bound is let go by the statement itself.) No condition. -/
import Derived.Test.YtcnfidfpgohpoaaAgK
import Derived.Test.YtcnfidfpgohpoaaAgZ
import Derived.Test.YtcnfidfpgohpoaaFixZ
import Derived.WalkKit
import Derived.WalkSpells
import Derived.WalkLawsBesides
import Derived.Lib.Hide
import Derived.Handy
import Derived.ProofKit
import Derived.OpenShut
import Derived.ShutString
import Derived.ChangeOld
import Derived.Below
import Derived.Deep.RegionHeld3
namespace Go.Proofs.Ytcnfidfpgohpoaa.AgendaOrder
open Go.Proofs.Ytcnfidfpgohpoaa.W
open Go.ChangeShapes Go.WideShapes Go.ChangeAt Go.RowKit
open Go.ChangeMaps (open_string shut_string)
set_option linter.unusedVariables false
theorem own : ownKnob Try.prog.godebug = none := by kernel_rfl
theorem laidOut : laidOutB Try.prog = true := by kernel_rfl
open Go.Sort
set_option linter.unusedSimpArgs false
theorem order_idx {i m j s L : Nat} (hi : i < m) (hml : j + m = L) (hs : s = j + i) (hL : L ≤ 1000000) : IntKind.i64.wrap ((j : Int) + (i : Int)) = (s : Int) ∧ (0 : Int) ≤ (i : Int) ∧ (i : Int) < (m : Int) ∧ (0 : Int) ≤ (s : Int) ∧ (s : Int) < (L : Int) := by
  rw [IntKind.wrap_i64]
  omega
set_option maxRecDepth 100000 in
set_option maxHeartbeats 12800000 in
theorem walk (v0 : Value) (l : List Bc) (now : Int) (w : World) (iv : SlAt (fun b => b < w.heap.size) 5 bcE w v0 l) (ty : ∀ f ∈ l, Bc.Typed f) (hlm : l.length ≤ maxLen) (wn : (Lit.int .i64 now).wf = true) :
    Calls Try.prog 4 #[v0, .int .i64 now] w fun e w' => e = .returned (.bool true) ∧ Below w.heap.size w w' := by
  obtain ⟨t0, t1⟩ := i64_bounds wn
  clear wn
  have ch := heavy8_any l hlm (fun x hx => (ty x hx).data) v0 w (fun k hk => hk) iv
  obtain ⟨x, c, rfl⟩ := iv.slice
  have cz := shown8_any
  have cn := fun w' (h : Below w.heap.size w w') => onew8_any w w' h
  have IV := Lib.hid iv
  clear iv
  go_enter Try.func4, Try.ntmps4
  go_wp2_with fail
  (with_reducible refine ch.mono ?_)
  rintro e w' ⟨⟨b, rfl, hb⟩, rfl⟩
  have HLB := Lib.hid hb
  clear hb ch
  cases b
  · have hl := HLB.out rfl
    go_wp2_with fail
    (with_reducible refine (cz _).mono ?_)
    rintro e w1 ⟨rfl, hB1⟩
    go_wp2_with fail
    (with_reducible refine (cn _ hB1).mono ?_)
    rintro e w2 ⟨pc, rfl, h1, hB2⟩
    have hR : RaIn (fun k => k = w2.heap.size) (w2.alloc (.cells #[.slice none 0 0, .int .i64 0] 30)) w2.heap.size agNew :=
      ⟨rfl, fun k hk => by rw [World.size_alloc]; omega, _, heap_alloc_new _ _, .inl ⟨none, 0, rfl, fun _ => rfl, rfl⟩⟩
    have hb := bnew8 h1 hR ((Below.refl _ _).alloc (Nat.le_refl _) _)
    clear h1 hR hB1 hB2 cn
    go_wp2_with fail
    generalize w2.alloc (.cells #[.slice none 0 0, .int .i64 0] 30) = w3 at *
    generalize w2.heap.size = pr at *
    clear w1 w2
    go_loopw [7] (fun i wr => ∃ k : Nat, k ≤ l.length ∧ i = .int .i64 k ∧ Both8 w wr pc pr (bcsS agNew (l.take k))) (fun i _ => l.length - (intOf i).toNat)
    case atStart => exact ⟨0, Nat.zero_le _, rfl, hb⟩
    case round =>
      obtain ⟨k, hk, rfl, hb⟩ := hrel
      have okk := bcs_ok agNew_ok (l.take k) (fun x hx => ty x (List.mem_of_mem_take hx))
      have nk := bcs_n agNew (l.take k)
      have nk' : (bcsS agNew (l.take k)).n ≤ 200 := by
        have : (l.take k).length ≤ 200 := by rw [List.length_take]; omega
        have h0 : agNew.n = 0 := rfl
        omega
      by_cases hlt : k < l.length
      · obtain ⟨f, hf, hfm⟩ := at_index l k hlt
        have hnx := bcs_next agNew l k f hf
        have tyf := ty f hfm
        have okn := bc_ok okk f tyf
        have nb0 := bc_n (bcsS agNew (l.take k)) f
        generalize bcsS agNew (l.take k) = cc at *
        have HN := Lib.hid hnx
        clear hnx
        generalize hcn : bcS cc f = cn at *
        have nb : cn.n ≤ 1000000 := by omega
        rcases IV.out with ⟨_, _, _, _, rfl⟩ | ⟨b, off, cap, hv, hbl, hc⟩
        · simp at hlt
        · simp only [Value.slice.injEq] at hv
          obtain ⟨rfl, _, rfl⟩ := hv
          have hcf := hc k f hf
          have hcell : ∀ j u, (bcE f)[j]? = some u → wr.cell? ⟨b, off + k * 5 + j, none⟩ = some u := fun j u hu => ((bcell hb.below).1 b _ hbl).trans (hcf j u hu)
          have a0' : wr.cell? ⟨b, off + k * 5, none⟩ = some (.int .i64 f.kind) := hcell 0 _ rfl
          have a1' : wr.cell? ⟨b, off + k * 5 + 1, none⟩ = some (.int .i64 f.what) := hcell 1 _ rfl
          have a2' : wr.cell? ⟨b, off + k * 5 + 2, none⟩ = some (.int .i64 f.ticket) := hcell 2 _ rfl
          have a3' : wr.cell? ⟨b, off + k * 5 + 3, none⟩ = some (.int .i64 f.at_) := hcell 3 _ rfl
          have a4' : wr.cell? ⟨b, off + k * 5 + 4, none⟩ = some (.string (bs f.data)) := hcell 4 _ rfl
          have i0 : (0 : Int) ≤ (k : Int) := by omega
          have i1 : (k : Int) < (l.length : Int) := by omega
          have y := fun w' (h : Both8 w w' pc pr cc) => does8_any okk (by omega) f tyf w' h
          rw [hcn] at y
          clear hc hf hcf hcell nb0 nk nk'
          go_wp2_with fail
          (with_reducible refine (y _ hb).mono ?_)
          rintro e w1 ⟨rfl, hb1⟩
          go_wp2_with fail
          go_roundw
          case rel => exact ⟨k + 1, by omega, by go_num, by rw [HN.out]; exact hb1⟩
          case measure => simp [intOf]; omega
      · obtain rfl : k = l.length := by omega
        have h1 := hb.lone
        generalize bcsS agNew (l.take l.length) = cc at *
        clear hb nk
        have nb : cc.n ≤ 1000000 := by omega
        have hroom := okk.room
        go_wp2_with fail
        (with_reducible refine (olist8_any okk nb h1).mono ?_)
        rintro e wl ⟨vl, rfl, hsl, hBl⟩
        have h2 := (h1.more hBl).less (K' := fun k => wr.heap.size ≤ k ∧ k < wl.heap.size) (fun k hk => .inr hk)
        generalize hK : (fun k => wr.heap.size ≤ k ∧ k < wl.heap.size) = K at *
        obtain ⟨xl, cl, rfl⟩ := hsl.slice
        have HSL := Lib.hid hsl
        clear hsl h1 hBl hK
        go_wp2_with fail
        go_loopw [9, 10] (fun n i wt => ∃ j : Nat, j ≤ cc.l.length ∧ n = .int .i64 j ∧ i = .int .i64 j ∧ One8 w wt K pc ⟨cc.l.drop j, cc.n⟩ ∧ ∀ k, K k → wt.heap[k]? = wl.heap[k]?) (fun n i _ => cc.l.length + 1 - (intOf i).toNat)
        case atStart => exact ⟨0, Nat.zero_le _, rfl, rfl, h2, fun _ _ => rfl⟩
        case round =>
          obtain ⟨j, hj, rfl, rfl, h3, hKt⟩ := hrel
          have okj := drop_ok okk j
          have ji : (j : Int) ≤ (cc.l.length : Int) := by omega
          have y := otak8_any okj nb now t0 t1 h3
          cases hdue : dueB ⟨cc.l.drop j, cc.n⟩ now
          · obtain ⟨hs, hlate⟩ := due_not okk.order hdue
            have hv : takV ⟨cc.l.drop j, cc.n⟩ now = itZero := by unfold takV; rw [hdue]; rfl
            rw [hdue, hs, hv] at y
            have HLT := Lib.hid hlate
            clear hlate hs hv hdue
            go_wp2_with fail
            (with_reducible refine y.mono ?_)
            clear y
            rintro e w4 ⟨rfl, h4, hK4⟩
            have h5 := h4.kept ((Below.refl w4.heap.size w4).alloc (Nat.le_refl _) (.cells #[.int .i64 itZero.at_, .int .i64 itZero.kind, .string (bs itZero.data), .int .i64 itZero.ticket] 39))
            have K5 : ∀ k, K k → (w4.alloc (.cells #[.int .i64 itZero.at_, .int .i64 itZero.kind, .string (bs itZero.data), .int .i64 itZero.ticket] 39)).heap[k]? = wl.heap[k]? := fun k hk => (Below.heap_alloc w4 _ k (h4.low k hk)).trans ((hK4 k hk).trans (hKt k hk))
            have y5 := olist8_any okj nb h5
            have HK5 := Lib.hid K5
            clear K5 hK4 hKt h4 h3
            go_wp2_with fail
            (with_reducible refine y5.mono ?_)
            clear y5
            generalize w4.alloc (.cells #[.int .i64 itZero.at_, .int .i64 itZero.kind, .string (bs itZero.data), .int .i64 itZero.ticket] 39) = w5 at *
            rintro e w6 ⟨v6, rfl, hs6, hB6⟩
            obtain ⟨x6, c6, rfl⟩ := hs6.slice
            have h6 := h5.kept hB6
            have HS6 := Lib.hid hs6
            clear hs6
            have hml : j + (cc.l.drop j).length = cc.l.length := by simp; omega
            generalize (cc.l.drop j).length = m at *
            have u1 : wrap64 ((j : Int) + (m : Int)) = (cc.l.length : Int) := by unfold wrap64; omega
            have hne : ((j : Int) + (m : Int) != (cc.l.length : Int)) = false := by simp; omega
            go_wp2_with fail
            go_loopw [14] (fun i wt => ∃ i' q : Nat, i' ≤ m ∧ i = .int .i64 i' ∧ wt = w6.drewN q) (fun i _ => m - (intOf i).toNat)
            case atStart => exact ⟨0, 0, Nat.zero_le _, rfl, rfl⟩
            case round =>
              obtain ⟨z, q, him, rfl, rfl⟩ := hrel
              by_cases hi : z < m
              · obtain ⟨x, hx, _⟩ := at_index cc.l (j + z) (by omega)
                have hx6 : (cc.l.drop j)[z]? = some x := by rw [List.getElem?_drop]; exact hx
                have hlt := HLT.out z x hx
                rcases HS6.out with ⟨_, _, _, _, hn⟩ | ⟨b6, o6, p6, hv6, _, hc6⟩
                · rw [hn] at hx6; simp at hx6
                · rcases HSL.out with ⟨_, _, _, _, hn⟩ | ⟨bl, ol, pl, hvl, hbl, hcl⟩
                  · rw [hn] at hml; simp at hml; omega
                  · simp only [Value.slice.injEq] at hv6 hvl
                    obtain ⟨rfl, hmm, rfl⟩ := hv6
                    obtain ⟨rfl, hll, rfl⟩ := hvl
                    clear hmm hll
                    obtain ⟨s, hs⟩ : ∃ s : Nat, s = j + z := ⟨_, rfl⟩
                    rw [← hs] at hx
                    have hbk : w6.heap[bl]? = wl.heap[bl]? := (hB6.block bl (h5.low bl hbl)).trans (HK5.out bl hbl)
                    obtain ⟨a0, a1, a2, a3⟩ := it_at (F := K) (w := w6) rfl (hc6 z x hx6)
                    obtain ⟨b0, b1, b2, b3⟩ := it_at (F := K) (w := w6) hbk (hcl s x hx)
                    obtain ⟨u2, i0, i1, i2, i3⟩ := order_idx hi hml hs (by omega)
                    have hnl : ¬ x.at_ ≤ now := Int.not_le.2 hlt
                    have heq := itc_neq x x
                    rw [(itEq_iff _ _).2 rfl] at heq
                    unfold It.val at heq
                    clear hc6 hcl hx hx6 hs hbk
                    go_wp2_with fail
                    go_quiet (fail)
                    go_wp2_with fail
                    go_roundw
                    case rel => exact ⟨z + 1, _, by omega, by go_num, by first | exact drewN_twice8 _ _ _ | exact rfl⟩
                    case measure => simp [intOf]; omega
              · have hni : ¬ (z : Int) < (m : Int) := by omega
                go_wp2_with fail
                go_ret
                exact ⟨rfl, below_drewN h6.below _⟩
          · obtain ⟨x, hx, hxn, hv, hs⟩ := due_drop hdue
            rw [hdue, hs, hv] at y
            have hjl : j < cc.l.length := (List.getElem?_eq_some_iff.1 hx).1
            clear hv hs hdue
            go_wp2_with fail
            (with_reducible refine y.mono ?_)
            clear y
            rintro e w4 ⟨rfl, h4, hK4⟩
            have h5 := h4.kept ((Below.refl w4.heap.size w4).alloc (Nat.le_refl _) (.cells #[.int .i64 x.at_, .int .i64 x.kind, .string (bs x.data), .int .i64 x.ticket] 39))
            have K5 : ∀ k, K k → (w4.alloc (.cells #[.int .i64 x.at_, .int .i64 x.kind, .string (bs x.data), .int .i64 x.ticket] 39)).heap[k]? = wl.heap[k]? := fun k hk => (Below.heap_alloc w4 _ k (h4.low k hk)).trans ((hK4 k hk).trans (hKt k hk))
            rcases HSL.out with ⟨_, _, _, _, hn⟩ | ⟨bl, ol, pl, hvl, hbl, hcl⟩
            · rw [hn] at hjl; simp at hjl
            · simp only [Value.slice.injEq] at hvl
              obtain ⟨rfl, _, rfl⟩ := hvl
              obtain ⟨b0, b1, b2, b3⟩ := it_at (F := K) (K5 bl hbl) (hcl j x hx)
              obtain ⟨c0, c1, c2, c3⟩ := four_cells (heap_alloc_new w4 (.cells #[.int .i64 x.at_, .int .i64 x.kind, .string (bs x.data), .int .i64 x.ticket] 39))
              have i0 : (0 : Int) ≤ (j : Int) := by omega
              have i1 : (j : Int) < (cc.l.length : Int) := by omega
              have hnl : ¬ now < x.at_ := by omega
              have hge : ¬ (cc.l.length : Int) ≤ (j : Int) := by omega
              have heq := itc_neq x x
              rw [(itEq_iff _ _).2 rfl] at heq
              unfold It.val at heq
              have HK5 := Lib.hid K5
              clear hcl hx K5 hK4 hKt h4 h3
              go_wp2_with fail
              go_quiet (fail)
              go_wp2_with fail
              go_roundw
              case rel => exact ⟨j + 1, by omega, by go_num, by go_num, h5.kept (below_drewN (Below.refl _ _) _), HK5.out⟩
              case measure => simp [intOf]; omega
  · go_wp2_with fail
    (with_reducible refine (cz _).mono ?_)
    rintro e w1 ⟨rfl, hB⟩
    go_wp2_with fail
    go_ret
    exact ⟨rfl, hB⟩
set_option maxRecDepth 100000 in
theorem lifted (os : Os) (started : os.Started) (H : Type) (enc : TypeId × Value → H) :
    ReturnsInHanded {} Try.checked os 4 .any (Rows.agendaOrderSpec.pre6 enc Try.prog Try.f4 Rows.agendaOrderRow.domain false) (Rows.agendaOrderSpec.post enc Try.prog Try.f4 false true false false) := by
  refine returnsInHanded_of_change (C := Try.checked) own started (by kernel_rfl) Try.func4
    (ChangeSpec.witness6 (enc := enc) (C := Try.checked) false ⟨#[], #[.slice none 0 0, .int .i64 0], []⟩ 8 (by kernel_rfl) (by kernel_rfl) (by kernel_rfl) (by kernel_rfl)) ?_
  intro W base args ds gs before hval0 hW hcnd _
  have hval : ∀ (j : Nat) t v, Try.f4.params[j]? = some t → args[j]? = some v → Value.okWide Try.prog W .any base t v := hval0
  have hW' := hW
  obtain ⟨p, q, hA0, hV, rfl, hfz, hnd⟩ := hW
  have hA : DataW.TrodAll enc Try.prog W 0 (fun _ => true) true Try.f4.params.toList args.toList ds p := hA0
  rw [Try.params4] at hA hval
  obtain ⟨v0, vs0, d0, ds0, p0, q0, hargs, rfl, rfl, h0, r0⟩ := trodAll_cons hA
  obtain ⟨v1, vs1, d1, ds1, p1, q1, rfl, rfl, rfl, h1, r1⟩ := trodAll_cons r0
  obtain ⟨rfl, rfl, rfl⟩ := trodAll_nil r1
  obtain rfl : args = #[v0, v1] := by cases args; simp_all
  obtain ⟨rfl, rfl⟩ := trodVars_none hV
  have k0 := h0
  have lt0 : ∀ x ∈ p0, x.block < W.heap.size := by obtain ⟨m, hm⟩ := k0; exact DataW.trod_lt m _ _ _ hm
  obtain ⟨a0, len0, cap0, rfl⟩ := okWide_slice Try.underlying22 (hval 0 22 v0 rfl rfl)
  obtain ⟨z0, w0a, w0b, w0c⟩ : ∃ l : List Bc, SlAt (fun b => b < W.heap.size) 5 bcE W (.slice a0 len0 cap0) l ∧ (∀ f ∈ l, Bc.Typed f) ∧ l.length ≤ maxLen := by
    obtain ⟨fuel, hf⟩ := h0
    obtain ⟨v, l, hcs, h1, h2, h3⟩ := open_bcs hf
    simp [Value.cells] at hcs
    subst hcs
    exact ⟨l, h1, h2, h3⟩
  obtain ⟨a1, rfl, rfl, rfl, w1⟩ := open_int Try.underlying2 (hval 1 2 v1 rfl rfl) h1
  clear hA0 hval0
  refine (walk (.slice a0 len0 cap0) z0 a1 W w0a w0b w0c w1).mono fun e W' ⟨he, bel⟩ => ?_
  subst he
  exact ⟨_, rfl, _, _, _, [], _, [], hW', trodAll_mk1 (shut_bool Try.underlying4 _), (trodAll_cons_mk (Below.trod laidOut (by kernel_rfl) (of_decide_eq_true (by kernel_rfl)) k0 bel lt0) (trodAll_cons_mk (shut_int Try.underlying2 w1) trodAll_mk0)), rfl, bel.frame _, fun h => by cases h⟩

theorem over : Rows.agendaOrderRow.holds Try.pinned (OpenSpec.ofChange Rows.agendaOrderSpec) :=
  OpenClaim.holds_of_wide 4 Try.f4 rfl rfl rfl rfl rfl rfl rfl ⟨rfl, rfl, rfl, rfl, rfl⟩ rfl rfl rfl rfl rfl (by kernel_rfl) Try.func4 (by kernel_rfl)
    (of_decide_eq_true (by kernel_rfl)) (by unfold Func.isWrapper; first | (rw [if_pos (by decide +kernel)]; kernel_rfl) | (rw [if_neg (by decide +kernel)]; exact ⟨rfl, rfl⟩))
    (fun os started H enc _ => lifted os started H enc)

theorem proved : Rows.AgendaOrderSaid := over
end Go.Proofs.Ytcnfidfpgohpoaa.AgendaOrder
