/- The document's own answers of layer 6, walked: fields that are joined. -/
import Derived.Test.YtdcpohbgbnbgmaaEdC
import Derived.Test.YtdcpohbgbnbgmaaHdC
namespace Go.Proofs.Ytdcpohbgbnbgmaa.W
open Go.RowKit Go.Sort
set_option linter.unusedVariables false
set_option linter.unusedSimpArgs false
def jnOk (l : List Fd) (m : List UInt8) : Bool := l.all fdOk && (macN m.length && (match walkL (fdJoin l ++ m) with | some p => (p.2 == m) && fdSame p.1 l | none => false))
def jnS (l : List Fd) (m : List UInt8) : List UInt8 := if jnOk l m then fdJoin l ++ m else []
def jnE (l : List Fd) (m : List UInt8) : Int := if jnOk l m then 0 else 1
theorem jn_yes {l : List Fd} {m : List UInt8} (h : jnOk l m = true) : jnS l m = fdJoin l ++ m ∧ jnE l m = 0 := by unfold jnS jnE; rw [if_pos h, if_pos h]; exact ⟨rfl, rfl⟩
theorem jn_no {l : List Fd} {m : List UInt8} (h : jnOk l m = false) : jnS l m = [] ∧ jnE l m = 1 := by unfold jnS jnE; rw [h]; exact ⟨rfl, rfl⟩
theorem fdJoin_snoc (l : List Fd) (f : Fd) : fdJoin (l ++ [f]) = fdJoin l ++ be 2 f.ty ++ be 2 ((f.body.length : Int) + 4) ++ f.body := by simp [fdJoin, fdEnc]
theorem fdJoin_take (l : List Fd) (k : Nat) : (fdJoin (l.take k)).length ≤ (fdJoin l).length := by
  have e : fdJoin l = fdJoin (l.take k) ++ fdJoin (l.drop k) := by
    unfold fdJoin
    rw [← List.flatMap_append, List.take_append_drop]
  rw [e, List.length_append]
  omega
/-- What its types let fields be. -/
def FdTyped (l : List Fd) : Prop := ∀ f ∈ l, -9223372036854775808 ≤ f.ty ∧ f.ty ≤ 9223372036854775807
theorem getD_mem (l : List Fd) (k : Nat) (h : k < l.length) : l.getD k ⟨0, []⟩ ∈ l := by
  rw [List.getD_eq_getElem?_getD, List.getElem?_eq_getElem h]
  exact List.getElem_mem h
theorem take_snoc (l : List Fd) (k : Nat) (h : k < l.length) : l.take (k + 1) = l.take k ++ [l.getD k ⟨0, []⟩] := by
  rw [List.take_succ_eq_append_getElem h, List.getD_eq_getElem?_getD, List.getElem?_eq_getElem h]
  rfl
theorem body_join (l : List Fd) (k : Nat) (h : k < l.length) : (l.getD k ⟨0, []⟩).body.length + 4 + (fdJoin (l.take k)).length ≤ (fdJoin l).length := by
  have := fdJoin_take l (k + 1)
  rw [take_snoc l k h, fdJoin_snoc] at this
  simp only [List.length_append, be_length] at this
  omega
theorem fdJoin_min : ∀ (l : List Fd), (∀ f ∈ l, fdOk f = true) → 16 * l.length ≤ (fdJoin l).length
  | [], _ => by simp
  | f :: l, h => by
    have h1 := fdJoin_min l (fun g hg => h g (List.mem_cons_of_mem _ hg))
    have h2 := h f (List.mem_cons_self ..)
    unfold fdOk at h2
    simp at h2
    have e : fdJoin (f :: l) = fdEnc f ++ fdJoin l := by simp [fdJoin]
    rw [e, List.length_append, fdEnc_length, List.length_cons]
    omega
set_option maxHeartbeats 6400000 in
theorem rjoin_any (l : List Fd) (m : List UInt8) (ht : FdTyped l) (hl : l.length ≤ 1000000) (hj : (fdJoin l).length + m.length ≤ 1000000) (v : Value) (w : World) (iv : FdIn w v l) :
    Calls Try.prog 15 #[v, .string (bs m)] w fun e w' => e = .returned (.tuple #[.string (bs (jnS l m)), .int .i64 (jnE l m)]) ∧ Below w.heap.size w w' := by
  have hvl : ∃ x c, v = .slice x l.length c := by
    rcases iv with ⟨_, _, rfl, _, rfl⟩ | ⟨bb, bo, bc, rfl, _⟩
    · exact ⟨_, _, rfl⟩
    · exact ⟨_, _, rfl⟩
  obtain ⟨x, c, rfl⟩ := hvl
  have IV := Lib.hid iv
  clear iv
  go_enter Try.func15, Try.ntmps15
  go_wp2
  go_loopw [6, 7] (fun s i wr => ∃ k : Nat, k ≤ l.length ∧ i = .int .i64 k ∧ s = .string (bs (fdJoin (l.take k))) ∧ (∀ f ∈ l.take k, fdOk f = true) ∧ Below w.heap.size w wr) (fun _ i _ => l.length - (intOf i).toNat)
  case atStart => exact ⟨0, Nat.zero_le _, rfl, rfl, by simp, Below.refl _ _⟩
  case round =>
    obtain ⟨k, hk, rfl, rfl, hok, hB⟩ := hrel
    have hsz := hB.size
    by_cases hlt : k < l.length
    · rcases IV.out with ⟨_, _, _, _, rfl⟩ | ⟨b, off, cap, hv, hbl, hc⟩
      · simp at hlt
      · simp only [Value.slice.injEq] at hv
        obtain ⟨rfl, _, rfl⟩ := hv
        obtain ⟨a1, a2⟩ := hc k hlt
        have a1' := ((bcell hB).1 b (off + k * 2) hbl).trans a1
        have a2' := ((bcell hB).1 b (off + k * 2 + 1) hbl).trans a2
        have hbj := body_join l k hlt
        obtain ⟨t0, t1⟩ := ht _ (getD_mem l k hlt)
        have hsn := take_snoc l k hlt
        have hjs := fdJoin_snoc (l.take k) (l.getD k ⟨0, []⟩)
        have hcl : off + k * 2 < off + k * 2 + 1 := by omega
        clear a1 a2 hc
        generalize hf : l.getD k ⟨0, []⟩ = f at *
        clear hf
        have i0 : (0 : Int) ≤ (k : Int) := by omega
        have i1 : (k : Int) < (l.length : Int) := by omega
        have HSN := Lib.hid hsn
        have HJS := Lib.hid hjs
        clear hsn hjs
        have hblr : b < wr.heap.size := by omega
        by_cases hfo : fdOk f = true
        · have c1 : 0 ≤ f.ty ∧ f.ty ≤ 65535 ∧ 12 ≤ (f.body.length : Int) ∧ (f.body.length : Int) ≤ 65528 ∧ (f.body.length : Int) % 4 = 0 := by
            unfold fdOk at hfo
            simp at hfo
            omega
          obtain ⟨c1, c2, c3, c4, c5⟩ := c1
          have y1 : ∀ w, Calls Try.prog 29 #[.int .u64 f.ty, .int .i64 2] w fun e w' => e = .returned (.string (bs (be 2 f.ty))) ∧ Below w.heap.size w w' := bytes_any f.ty 2 c1 (by omega) (by omega)
          have y2 : ∀ w, Calls Try.prog 29 #[.int .u64 ((f.body.length : Int) + 4), .int .i64 2] w fun e w' => e = .returned (.string (bs (be 2 ((f.body.length : Int) + 4)))) ∧ Below w.heap.size w w' := bytes_any ((f.body.length : Int) + 4) 2 (by omega) (by omega) (by omega)
          have hy1 := be_length 2 f.ty
          have hy2 := be_length 2 ((f.body.length : Int) + 4)
          have u1 : IntKind.u64.wrap f.ty = f.ty := by rw [IntKind.wrap_u64]; omega
          have u2 : IntKind.i64.wrap ((f.body.length : Int) + 4) = (f.body.length : Int) + 4 := by rw [IntKind.wrap_i64]; omega
          have u3 : IntKind.u64.wrap ((f.body.length : Int) + 4) = (f.body.length : Int) + 4 := by rw [IntKind.wrap_u64]; omega
          have hok' : ∀ g ∈ l.take (k + 1), fdOk g = true := by
            rw [HSN.out]
            intro g hg
            rcases List.mem_append.1 hg with hg | hg
            · exact hok g hg
            · simp at hg
              rw [hg]
              exact hfo
          have HOK := Lib.hid hok'
          clear hok hok' hfo
          generalize be 2 f.ty = x1 at *
          generalize be 2 ((f.body.length : Int) + 4) = x2 at *
          generalize hJ : fdJoin (l.take k) = J at *
          clear hJ
          have hb1 : (9223372036854775807 < J.length + 2) = False := eq_false (by omega)
          have hb2 : (9223372036854775807 < J.length + 2 + 2) = False := eq_false (by omega)
          have hb3 : (9223372036854775807 < J.length + 2 + 2 + f.body.length) = False := eq_false (by omega)
          go_wp2_with fail
          have k0 := cell_regrown a1'
          have k1 := cell_regrown a2'
          have d0 := fun d os => Calls.regrown_of (y1 (grow (redrawn wr d) os))
          have d1 := fun d os => Calls.regrown_of (y2 (grow (redrawn wr d) os))
          refine wp_region_quiet_below (by kernel_rfl) (by kernel_rfl) ?_
          repeat (quiet_step (first | (with_reducible exact d0 _ _) | (with_reducible exact d1 _ _)))
          refine wpQuiet_nil ?_
          intro w2 hw
          replace hw := quiet_world hw
          clear d0 d1 k0 k1
          replace hB := hB.trans (hw.mono hB.size)
          go_wp2_with fail
          go_roundw
          case rel => exact ⟨k + 1, by omega, by go_num, by rw [HSN.out, HJS.out]; simp, HOK.out, hB⟩
          case measure => simp [intOf]; omega
        · have hc : f.ty < 0 ∨ (0 ≤ f.ty ∧ 65535 < f.ty) ∨ (0 ≤ f.ty ∧ f.ty ≤ 65535 ∧ (f.body.length : Int) < 12) ∨ (0 ≤ f.ty ∧ f.ty ≤ 65535 ∧ 12 ≤ (f.body.length : Int) ∧ 65528 < (f.body.length : Int)) ∨ (0 ≤ f.ty ∧ f.ty ≤ 65535 ∧ 12 ≤ (f.body.length : Int) ∧ (f.body.length : Int) ≤ 65528 ∧ ((f.body.length : Int) % 4 != 0) = true) := by
            unfold fdOk at hfo
            simp at hfo
            simp only [bne_iff_ne]
            omega
          have hno : jnOk l m = false := by
            unfold jnOk
            have : l.all fdOk = false := by
              rw [Bool.eq_false_iff]
              intro h
              rw [List.all_eq_true] at h
              apply hfo
              have hm : f ∈ l.take (k + 1) := by rw [HSN.out]; simp
              exact h f (List.mem_of_mem_take hm)
            rw [this]
            rfl
          obtain ⟨e1, e2⟩ := jn_no hno
          have E1 := Lib.hid e1
          have E2 := Lib.hid e2
          clear e1 e2 hno hfo hok
          rcases hc with h1 | ⟨h1, h2⟩ | ⟨h1, h2, h3⟩ | ⟨h1, h2, h3, h4⟩ | ⟨h1, h2, h3, h4, h5⟩
          all_goals
            go_wp2_with fail
            go_ret2
            exact ⟨by rw [E1.out, E2.out]; rfl, hB⟩
    · obtain rfl : k = l.length := by omega
      rw [List.take_length] at *
      have hall : l.all fdOk = true := List.all_eq_true.2 hok
      have hjo : jnOk l m = (macN m.length && (match walkL (fdJoin l ++ m) with | some p => (p.2 == m) && fdSame p.1 l | none => false)) := by
        unfold jnOk
        rw [hall]
        rfl
      have c1 := rwalk_any (fdJoin l ++ m) (by rw [List.length_append]; omega)
      have c2 := rmac_any m.length (by omega)
      have hjm : (fdJoin l).length + m.length ≤ 9223372036854775807 := by omega
      clear hok hall
      cases hw : walkL (fdJoin l ++ m) with
      | none =>
        rw [hw] at hjo
        obtain ⟨e1, e2⟩ := jn_no (show jnOk l m = false by rw [hjo]; simp)
        obtain ⟨f1, f2, f3⟩ := wk_no hw
        rw [f1, f2, f3] at c1
        have E1 := Lib.hid e1
        have E2 := Lib.hid e2
        clear e1 e2 hjo f1 f2 f3 hw
        generalize hJ : fdJoin l = J at *
        clear hJ
        cases hm : macN m.length
        all_goals
          rw [hm] at c2
          go_wp2_with fail
          (with_reducible refine (c1 _).mono ?_)
          rintro e w1 ⟨v, rfl, ho, hb1⟩
          replace hB := hB.trans (hb1.mono hsz)
          go_wp2_with fail
          (with_reducible refine (c2 _).mono ?_)
          rintro e w2 ⟨rfl, rfl⟩
          go_wp2_with fail
          go_ret2
          exact ⟨by rw [E1.out, E2.out]; rfl, hB⟩
      | some p =>
        obtain ⟨x1, y1⟩ := p
        rw [hw] at hjo
        obtain ⟨f1, f2, f3⟩ := wk_yes hw
        rw [f1, f2, f3] at c1
        simp only [] at hjo
        have hxl : x1.length ≤ 1000000 := by
          obtain ⟨w1, w2, _⟩ := walk_join _ _ _ _ hw
          have := fdJoin_min x1 w2
          have w3 := congrArg List.length w1
          rw [List.length_append, List.length_append] at w3
          omega
        clear f1 f2 f3
        generalize hJ : fdJoin l = J at *
        have HJ := Lib.hid hJ
        clear hJ hw
        cases hm : macN m.length
        · obtain ⟨e1, e2⟩ := jn_no (show jnOk l m = false by rw [hjo, hm]; rfl)
          have E1 := Lib.hid e1
          have E2 := Lib.hid e2
          clear e1 e2 hjo
          rw [hm] at c2
          go_wp2_with fail
          (with_reducible refine (c1 _).mono ?_)
          rintro e w1 ⟨v, rfl, ho, hb1⟩
          replace hB := hB.trans (hb1.mono hsz)
          go_wp2_with fail
          (with_reducible refine (c2 _).mono ?_)
          rintro e w2 ⟨rfl, rfl⟩
          go_wp2_with fail
          go_ret2
          exact ⟨by rw [E1.out, E2.out]; rfl, hB⟩
        · rw [hm] at c2 hjo
          cases hy : (y1 == m)
          · obtain ⟨e1, e2⟩ := jn_no (show jnOk l m = false by rw [hjo, hy]; rfl)
            have E1 := Lib.hid e1
            have E2 := Lib.hid e2
            have hy' : ¬ y1 = m := by simpa using hy
            have hyb : ¬ bs y1 = bs m := fun e => hy' (bs_inj e)
            clear e1 e2 hjo hy'
            go_wp2_with fail
            (with_reducible refine (c1 _).mono ?_)
            rintro e w1 ⟨v, rfl, ho, hb1⟩
            replace hB := hB.trans (hb1.mono hsz)
            go_wp2_with fail
            (with_reducible refine (c2 _).mono ?_)
            rintro e w2 ⟨rfl, rfl⟩
            go_wp2_with fail
            go_ret2
            exact ⟨by rw [E1.out, E2.out]; rfl, hB⟩
          · obtain rfl : y1 = m := by simpa using hy
            rw [hy] at hjo
            have hsm : ∀ (v : Value) (w : World), FdIn w v x1 → FdIn w (.slice x l.length c) l → Calls Try.prog 11 #[v, .slice x l.length c] w fun e w' => e = .returned (.bool (fdSame x1 l)) ∧ ∃ m, w' = w.drewN m := fun v w i1 i2 => rsame_any x1 l hxl hl v _ w i1 i2
            cases hs : fdSame x1 l
            · obtain ⟨e1, e2⟩ := jn_no (show jnOk l y1 = false by rw [hjo, hs]; rfl)
              rw [hs] at hsm
              have E1 := Lib.hid e1
              have E2 := Lib.hid e2
              clear e1 e2 hjo hy
              go_wp2_with fail
              (with_reducible refine (c1 _).mono ?_)
              rintro e w1 ⟨v, rfl, ho, hb1⟩
              have i1 := FdIn.own ho
              have i2 := (IV.out.kept hB).kept hb1
              replace hB := hB.trans (hb1.mono hsz)
              clear ho
              go_wp2_with fail
              (with_reducible refine (c2 _).mono ?_)
              rintro e w2 ⟨rfl, rfl⟩
              go_wp2_with fail
              (with_reducible refine (hsm _ _ i1 i2).mono ?_)
              rintro e w2 ⟨rfl, q, rfl⟩
              go_wp2_with fail
              go_ret2
              exact ⟨by rw [E1.out, E2.out]; rfl, below_drewN hB q⟩
            · obtain ⟨e1, e2⟩ := jn_yes (show jnOk l y1 = true by rw [hjo, hs]; rfl)
              rw [hs] at hsm
              have E1 := Lib.hid e1
              have E2 := Lib.hid e2
              clear e1 e2 hjo hy
              go_wp2_with fail
              (with_reducible refine (c1 _).mono ?_)
              rintro e w1 ⟨v, rfl, ho, hb1⟩
              have i1 := FdIn.own ho
              have i2 := (IV.out.kept hB).kept hb1
              replace hB := hB.trans (hb1.mono hsz)
              clear ho
              go_wp2_with fail
              (with_reducible refine (c2 _).mono ?_)
              rintro e w2 ⟨rfl, rfl⟩
              go_wp2_with fail
              (with_reducible refine (hsm _ _ i1 i2).mono ?_)
              rintro e w2 ⟨rfl, q, rfl⟩
              go_wp2_with fail
              go_ret2
              exact ⟨by rw [E1.out, E2.out, HJ.out]; rfl, below_drewN hB q⟩
end Go.Proofs.Ytdcpohbgbnbgmaa.W
