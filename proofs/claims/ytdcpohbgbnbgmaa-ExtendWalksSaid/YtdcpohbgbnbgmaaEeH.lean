/- Layer 6's own code, walked: Join. -/
import Derived.Test.YtdcpohbgbnbgmaaEeA
import Derived.Test.YtdcpohbgbnbgmaaEeC
import Derived.Test.YtdcpohbgbnbgmaaEeD
import Derived.Test.YtdcpohbgbnbgmaaEeG
import Derived.Test.YtdcpohbgbnbgmaaEdD
namespace Go.Proofs.Ytdcpohbgbnbgmaa.W
open Go.RowKit Go.Sort
set_option linter.unusedVariables false
set_option linter.unusedSimpArgs false
theorem blk_not_row {W : World} {B : Nat} {t e : TypeId} {cs : Array Value} {fr : Nat × Nat} (h : W.heap[B]? = some (.cells cs t fr)) (hte : t ≠ e) {base size k : Nat} {v : Value} {xs : List Value} (hr : W.ownsRow base e size v k xs) : some B ≠ v.ownBlock := by
  rcases hr.2 with ⟨rfl, _⟩ | ⟨g, cap, cur, rfl, _, hgb, _⟩
  · simp [Value.ownBlock]
  · intro e'
    obtain rfl : B = g := by simpa [Value.ownBlock] using e'
    have := h.symm.trans hgb
    simp at this
    exact hte this.2.1
theorem blk_grown {W W' : World} {B : Nat} {o : Obj} {row : Option Nat} (h : W.heap[B]? = some o) (hg : W.grownBy W' row) (hne : some B ≠ row) : W'.heap[B]? = some o := (hg.block B (Array.getElem?_eq_some_iff.1 h).1 hne).trans h
theorem blk_cells {W : World} {B : Nat} {a b : Value} {t : TypeId} (h : W.heap[B]? = some (.cells #[a, b] t (0, 0))) : W.cell? ⟨B, 0, none⟩ = some a ∧ W.cell? ⟨B, 1, none⟩ = some b := by
  constructor <;> simp [World.cell?, h]
theorem str_bc (l : List UInt8) : Lib.strCells (bs l) = bc l := by simp [Lib.strCells, bs, bc]
theorem bc_append (a b : List UInt8) : bc a ++ bc b = bc (a ++ b) := by simp [bc]
theorem fdOk_code (f : Fd) : fdOk f = (pairB f.ty && lenB ((f.body.length : Int) + 4)) := by
  unfold fdOk lenB pairB
  rw [Bool.eq_iff_iff]
  simp
  omega
set_option maxRecDepth 100000 in
set_option maxHeartbeats 12800000 in
theorem ejoin_any (l : List Fd) (m : List UInt8) (ht : FdTyped l) (hl : l.length ≤ 1000000) (hj : (fdJoin l).length + m.length ≤ 1000000) (v : Value) (w : World) (iv : FdIn w v l) :
    Calls Try.prog 13 #[v, .string (bs m)] w fun e w' => e = .returned (.tuple #[.string (bs (jnS l m)), .int .i64 (jnE l m)]) ∧ Below w.heap.size w w' := by
  obtain ⟨i0, hi0, hz0, hz1, hz2⟩ := info_parts info_u8
  have hvl : ∃ x c, v = .slice x l.length c := by
    rcases iv with ⟨_, _, rfl, _, rfl⟩ | ⟨bb, bo, bc, rfl, _⟩
    · exact ⟨_, _, rfl⟩
    · exact ⟨_, _, rfl⟩
  obtain ⟨x, c, rfl⟩ := hvl
  have IV := Lib.hid iv
  clear iv
  go_enter Try.func13, Try.ntmps13
  go_wp2
  go_loopw [6, 16] (fun b i wr => ∃ k : Nat, k ≤ l.length ∧ i = .int .i64 k ∧ wr.ownsRow w.heap.size 5 1 b (fdJoin (l.take k)).length (bc (fdJoin (l.take k))) ∧ (∀ f ∈ l.take k, fdOk f = true) ∧ Below w.heap.size w wr) (fun _ i _ => l.length - (intOf i).toNat)
  case atStart => exact ⟨0, Nat.zero_le _, rfl, World.ownsRow_nil _ _ _ _, by simp, Below.refl _ _⟩
  case round =>
    obtain ⟨k, hk, rfl, own, hok, hB⟩ := hrel
    have hsz := hB.size
    by_cases hlt : k < l.length
    · rcases IV.out with ⟨_, _, _, _, rfl⟩ | ⟨b, off, cap, hv, hbl, hc⟩
      · simp at hlt
      · simp only [Value.slice.injEq] at hv
        obtain ⟨rfl, _, rfl⟩ := hv
        obtain ⟨a1, a2⟩ := hc k hlt
        have a1' := ((bcell hB).1 b (off + k * 2) hbl).trans a1
        have a2' := ((bcell hB).1 b (off + k * 2 + 1) hbl).trans a2
        have hbj := body_join l k hlt
        obtain ⟨t0, t1⟩ := ht _ (getD_mem l k hlt)
        have hsn := take_snoc l k hlt
        have hjs := fdJoin_snoc (l.take k) (l.getD k ⟨0, []⟩)
        have hcl : off + k * 2 < off + k * 2 + 1 := by omega
        clear a1 a2 hc
        generalize hf : l.getD k ⟨0, []⟩ = f at *
        clear hf
        have i0' : (0 : Int) ≤ (k : Int) := by omega
        have i1' : (k : Int) < (l.length : Int) := by omega
        have HSN := Lib.hid hsn
        have HJS := Lib.hid hjs
        clear hsn hjs
        have hblr : b < wr.heap.size := by omega
        have c1 := isPair_any f.ty
        have c2 := isLength_any ((f.body.length : Int) + 4)
        have hfc := fdOk_code f
        have u2 : IntKind.i64.wrap ((f.body.length : Int) + 4) = (f.body.length : Int) + 4 := by rw [IntKind.wrap_i64]; omega
        have u3' : IntKind.i64.wrap (4 + (f.body.length : Int)) = (f.body.length : Int) + 4 := by rw [IntKind.wrap_i64]; omega
        by_cases hfo : fdOk f = true
        · rw [hfo] at hfc
          have hp : pairB f.ty = true ∧ lenB ((f.body.length : Int) + 4) = true := by simpa using hfc.symm
          rw [hp.1] at c1
          rw [hp.2] at c2
          have n1 : 0 ≤ f.ty ∧ f.ty ≤ 65535 := by
            have := hp.1
            unfold pairB at this
            simpa using this
          have n2 : 0 ≤ (f.body.length : Int) + 4 ∧ (f.body.length : Int) + 4 ≤ 65535 := by
            have := hp.2
            unfold lenB pairB at this
            simp at this
            omega
          clear hfc hp
          have hok' : ∀ g ∈ l.take (k + 1), fdOk g = true := by
            rw [HSN.out]
            intro g hg
            rcases List.mem_append.1 hg with hg | hg
            · exact hok g hg
            · simp at hg
              rw [hg]
              exact hfo
          have HOK := Lib.hid hok'
          clear hok hok' hfo
          have hJl := fdJoin_take l k
          generalize hJ : fdJoin (l.take k) = J at *
          clear hJ
          go_wp2_with fail
          (with_reducible refine (c1 _).mono ?_)
          rintro e w' ⟨rfl, rfl⟩
          go_wp2_with fail
          (with_reducible refine (c2 _).mono ?_)
          rintro e w' ⟨rfl, rfl⟩
          go_wp2_with fail
          have hf0 : (wr.alloc (.cells #[.int .i64 f.ty, .string (bs f.body)] 44)).heap[wr.heap.size]? = some (.cells #[.int .i64 f.ty, .string (bs f.body)] 44 (0, 0)) := heap_alloc_new _ _
          have p1 := putPair_any f.ty n1.1 n1.2 w.heap.size u6 J (by omega) _ (own.alloc (.cells #[.int .i64 f.ty, .string (bs f.body)] 44)) (by simp; omega)
          refine p1.mono ?_
          rintro e w1 ⟨v1, rfl, own1, g1⟩
          have hf1 := blk_grown hf0 g1 (blk_not_row hf0 (by decide) (own.alloc _))
          have z1 : w.heap.size ≤ w1.heap.size := Nat.le_trans (by simp; omega) g1.size
          have B1 : Below w.heap.size w w1 := (Below.alloc hB hsz _).grown g1 (by simp; omega) (fun j hj => (own.lt j hj).1)
          clear p1 g1
          go_wp2_with fail
          have p2 := putPair_any ((f.body.length : Int) + 4) n2.1 n2.2 w.heap.size v1 (J ++ be 2 f.ty) (by rw [List.length_append, be_length]; omega) w1 own1 z1
          refine p2.mono ?_
          rintro e w2 ⟨v2, rfl, own2, g2⟩
          have hf2 := blk_grown hf1 g2 (blk_not_row hf1 (by decide) own1)
          have z2 : w.heap.size ≤ w2.heap.size := Nat.le_trans z1 g2.size
          have B2 : Below w.heap.size w w2 := B1.grown g2 z1 (fun j hj => (own1.lt j hj).1)
          obtain ⟨q0, q1⟩ := blk_cells hf2
          have hn2 : (J ++ be 2 f.ty ++ be 2 ((f.body.length : Int) + 4)).length = J.length + 4 := by rw [List.length_append, List.length_append, be_length, be_length]
          clear p2 g2 own1 B1 hf0 hf1 hf2
          go_wp2_with (at_builtin; refine Lib.wpList_append_own_string _ rfl _ _ 55 9 rfl w.heap.size 5 i0 Try.underlying55 Try.underlying9 hi0 hz0 hz1 hz2 _ _ _ rfl own2 (bs f.body) rfl (by rw [bs_size, hn2]; unfold maxLen; omega) (by rw [bs_size, hn2]; omega) z2 ?_; intro v3 w3 own3 g3 _)
          rw [bs_size, str_bc, bc_append, ← List.length_append] at own3
          go_roundw
          case rel => exact ⟨k + 1, by omega, by go_num, by rw [HSN.out, HJS.out]; exact own3, HOK.out, B2.grown g3 z2 (fun j hj => (own2.lt j hj).1)⟩
          case measure => simp [intOf]; omega
        · have hff : fdOk f = false := by simpa using hfo
          have hno : jnOk l m = false := by
            unfold jnOk
            have : l.all fdOk = false := by
              rw [Bool.eq_false_iff]
              intro h
              rw [List.all_eq_true] at h
              apply hfo
              have hm : f ∈ l.take (k + 1) := by rw [HSN.out]; simp
              exact h f (List.mem_of_mem_take hm)
            rw [this]
            rfl
          obtain ⟨e1, e2⟩ := jn_no hno
          have E1 := Lib.hid e1
          have E2 := Lib.hid e2
          rw [hff] at hfc
          clear e1 e2 hno hfo hff hok
          cases hp : pairB f.ty
          · rw [hp] at c1
            clear hfc hp
            go_wp2_with fail
            (with_reducible refine (c1 _).mono ?_)
            rintro e w' ⟨rfl, rfl⟩
            go_wp2_with fail
            go_ret2
            exact ⟨by rw [E1.out, E2.out]; rfl, Below.alloc hB hsz _⟩
          · have hq : lenB ((f.body.length : Int) + 4) = false := by rw [hp] at hfc; simpa using hfc.symm
            rw [hp] at c1
            rw [hq] at c2
            clear hfc hp hq
            go_wp2_with fail
            (with_reducible refine (c1 _).mono ?_)
            rintro e w' ⟨rfl, rfl⟩
            go_wp2_with fail
            (with_reducible refine (c2 _).mono ?_)
            rintro e w' ⟨rfl, rfl⟩
            go_wp2_with fail
            go_ret2
            exact ⟨by rw [E1.out, E2.out]; rfl, Below.alloc hB hsz _⟩
    · obtain rfl : k = l.length := by omega
      rw [List.take_length] at own hok
      have hall : l.all fdOk = true := List.all_eq_true.2 hok
      have hlen : (fdJoin l ++ m).length ≤ 1000000 := by rw [List.length_append]; exact hj
      have cw := ewalk_any (fdJoin l ++ m) hlen
      clear hok
      cases hw : walkL (fdJoin l ++ m) with
      | none =>
        obtain ⟨w1, w2, w3⟩ := wk_no hw
        have hno : jnOk l m = false := by
          unfold jnOk
          rw [hw]
          simp
        obtain ⟨e1, e2⟩ := jn_no hno
        have E1 := Lib.hid e1
        have E2 := Lib.hid e2
        rw [w1, w2, w3] at cw
        clear e1 e2 hno hall hw w1 w2 w3
        go_wp2_with (at_builtin; refine Lib.wpList_append_own_string _ rfl _ _ 55 9 rfl w.heap.size 5 i0 Try.underlying55 Try.underlying9 hi0 hz0 hz1 hz2 _ _ _ rfl own (bs m) rfl (by rw [bs_size]; unfold maxLen; omega) (by rw [bs_size]; omega) hsz ?_; intro v3 w3 own3 g3 _; rw [bs_size, str_bc, bc_append, ← List.length_append] at own3; have tx := text_own own3; have B3 := hB.grown g3 hsz (fun j hj => (own.lt j hj).1); clear g3)
        (with_reducible refine (cw _).mono ?_)
        rintro e w4 ⟨vf, rfl, ownf, hB4⟩
        go_wp2_with fail
        go_ret2
        exact ⟨by rw [E1.out, E2.out]; rfl, B3.trans (hB4.mono B3.size)⟩
      | some q =>
        obtain ⟨xs, y⟩ := q
        obtain ⟨w1, w2, w3⟩ := wk_yes hw
        obtain ⟨j1, j2, j3⟩ := walk_join _ _ _ _ hw
        have hxl : xs.length ≤ 1000000 := by
          have := fdJoin_min xs j2
          have := congrArg List.length j1
          rw [List.length_append] at this
          omega
        rw [w1, w2, w3] at cw
        by_cases hy : y = m
        · have hsm : jnOk l m = fdSame xs l := by
            unfold jnOk
            rw [hall, hw]
            subst hy
            rw [j3]
            simp
          subst hy
          clear hall hw w1 w2 w3 j1 j2 j3
          cases hfs : fdSame xs l
          · rw [hfs] at hsm
            obtain ⟨e1, e2⟩ := jn_no hsm
            have E1 := Lib.hid e1
            have E2 := Lib.hid e2
            clear e1 e2 hsm
            go_wp2_with (at_builtin; refine Lib.wpList_append_own_string _ rfl _ _ 55 9 rfl w.heap.size 5 i0 Try.underlying55 Try.underlying9 hi0 hz0 hz1 hz2 _ _ _ rfl own (bs y) rfl (by rw [bs_size]; unfold maxLen; omega) (by rw [bs_size]; omega) hsz ?_; intro v3 w3 own3 g3 _; rw [bs_size, str_bc, bc_append, ← List.length_append] at own3; have tx := text_own own3; have B3 := hB.grown g3 hsz (fun j hj => (own.lt j hj).1); clear g3)
            (with_reducible refine (cw _).mono ?_)
            rintro e w4 ⟨vf, rfl, ownf, hB4⟩
            have B4 := B3.trans (hB4.mono B3.size)
            have ce := equal_any xs l hxl hl vf _ w4 (FdIn.own ownf) (IV.out.kept B4)
            rw [hfs] at ce
            go_wp2_with fail
            refine ce.mono ?_
            rintro e w5 ⟨rfl, n, rfl⟩
            go_wp2_with fail
            go_ret2
            exact ⟨by rw [E1.out, E2.out]; rfl, below_drewN B4 n⟩
          · rw [hfs] at hsm
            obtain ⟨e1, e2⟩ := jn_yes hsm
            have E1 := Lib.hid e1
            have E2 := Lib.hid e2
            clear e1 e2 hsm
            go_wp2_with (at_builtin; refine Lib.wpList_append_own_string _ rfl _ _ 55 9 rfl w.heap.size 5 i0 Try.underlying55 Try.underlying9 hi0 hz0 hz1 hz2 _ _ _ rfl own (bs y) rfl (by rw [bs_size]; unfold maxLen; omega) (by rw [bs_size]; omega) hsz ?_; intro v3 w3 own3 g3 _; rw [bs_size, str_bc, bc_append, ← List.length_append] at own3; have tx := text_own own3; have B3 := hB.grown g3 hsz (fun j hj => (own.lt j hj).1); clear g3)
            (with_reducible refine (cw _).mono ?_)
            rintro e w4 ⟨vf, rfl, ownf, hB4⟩
            have B4 := B3.trans (hB4.mono B3.size)
            have ce := equal_any xs l hxl hl vf _ w4 (FdIn.own ownf) (IV.out.kept B4)
            rw [hfs] at ce
            go_wp2_with fail
            refine ce.mono ?_
            rintro e w5 ⟨rfl, n, rfl⟩
            go_wp2_with fail
            go_ret2
            exact ⟨by rw [E1.out, E2.out]; rfl, below_drewN B4 n⟩
        · have hno : jnOk l m = false := by
            unfold jnOk
            rw [hw]
            simp [hy]
          obtain ⟨e1, e2⟩ := jn_no hno
          have E1 := Lib.hid e1
          have E2 := Lib.hid e2
          clear e1 e2 hno hall hw w1 w2 w3 j1 j2 j3
          go_wp2_with (at_builtin; refine Lib.wpList_append_own_string _ rfl _ _ 55 9 rfl w.heap.size 5 i0 Try.underlying55 Try.underlying9 hi0 hz0 hz1 hz2 _ _ _ rfl own (bs m) rfl (by rw [bs_size]; unfold maxLen; omega) (by rw [bs_size]; omega) hsz ?_; intro v3 w3 own3 g3 _; rw [bs_size, str_bc, bc_append, ← List.length_append] at own3; have tx := text_own own3; have B3 := hB.grown g3 hsz (fun j hj => (own.lt j hj).1); clear g3)
          (with_reducible refine (cw _).mono ?_)
          rintro e w4 ⟨vf, rfl, ownf, hB4⟩
          go_wp2_with fail
          go_ret2
          exact ⟨by rw [E1.out, E2.out]; rfl, B3.trans (hB4.mono B3.size)⟩
end Go.Proofs.Ytdcpohbgbnbgmaa.W
