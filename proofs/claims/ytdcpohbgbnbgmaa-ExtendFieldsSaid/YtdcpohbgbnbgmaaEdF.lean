/- What the laws of layer 6 call besides: fields made the reference's; the bound of the document. -/
import Derived.Test.YtdcpohbgbnbgmaaEdD
namespace Go.Proofs.Ytdcpohbgbnbgmaa.W
open Go.RowKit Go.Sort
set_option linter.unusedVariables false
set_option linter.unusedSimpArgs false
theorem fd_new (w : World) (x : Fd) (t : TypeId) : ∀ j u, ([.int .i64 x.ty, .string (bs x.body)] : List Value)[j]? = some u → (w.alloc (.cells #[.int .i64 x.ty, .string (bs x.body)] t)).cell? ((⟨w.heap.size, 0, none⟩ : Addr).add j) = some u := by
  intro j u hu
  rw [Addr.add_lit, Nat.zero_add]
  match j, hu with
  | 0, hu => simp at hu; subst hu; simp [go_sem]
  | 1, hu => simp at hu; subst hu; simp [go_sem]
theorem fdCells_take (l : List Fd) (k : Nat) (h : k < l.length) : fdCells (l.take k) ++ [.int .i64 (l.getD k ⟨0, []⟩).ty, .string (bs (l.getD k ⟨0, []⟩).body)] = fdCells (l.take (k + 1)) := by
  rw [fdCells_snoc, take_snoc l k h]
set_option maxHeartbeats 3200000 in
theorem theirs_any (l : List Fd) (hl : l.length ≤ 1000000) (v : Value) (w : World) (iv : FdIn w v l) :
    Calls Try.prog 12 #[v] w fun e w' => ∃ v', e = .returned v' ∧ w'.ownsRow w.heap.size 53 2 v' l.length (fdCells l) ∧ Below w.heap.size w w' := by
  have hvl : ∃ x c, v = .slice x l.length c := by
    rcases iv with ⟨_, _, rfl, _, rfl⟩ | ⟨bb, bo, bc, rfl, _⟩
    · exact ⟨_, _, rfl⟩
    · exact ⟨_, _, rfl⟩
  obtain ⟨x, c, rfl⟩ := hvl
  obtain ⟨i0, hi0, hz0, hz1, hz2⟩ := info_parts info_Fd
  have IV := Lib.hid iv
  clear iv
  go_enter Try.func12, Try.ntmps12
  go_wp2
  go_loopw [3, 4] (fun v i wr => ∃ k : Nat, k ≤ l.length ∧ i = .int .i64 k ∧ wr.ownsRow w.heap.size 53 2 v k (fdCells (l.take k)) ∧ Below w.heap.size w wr) (fun _ i _ => l.length - (intOf i).toNat)
  case atStart => exact ⟨0, Nat.zero_le _, rfl, ownsRow_empty2 _ _ _, (Below.refl _ _).alloc (Nat.le_refl _) _⟩
  case round =>
    obtain ⟨k, hk, rfl, own, hB⟩ := hrel
    have hsz := hB.size
    by_cases hlt : k < l.length
    · rcases IV.out with ⟨_, _, _, _, rfl⟩ | ⟨b, off, cap, hv, hbl, hc⟩
      · simp at hlt
      · simp only [Value.slice.injEq] at hv
        obtain ⟨rfl, _, rfl⟩ := hv
        obtain ⟨a1, a2⟩ := hc k hlt
        have a1' := ((bcell hB).1 b (off + k * 2) hbl).trans a1
        have a2' := ((bcell hB).1 b (off + k * 2 + 1) hbl).trans a2
        have hsn := fdCells_take l k hlt
        clear a1 a2 hc
        generalize hf : l.getD k ⟨0, []⟩ = f at *
        clear hf
        have i0' : (0 : Int) ≤ (k : Int) := by omega
        have i1 : (k : Int) < (l.length : Int) := by omega
        have HSN := Lib.hid hsn
        clear hsn
        have hblr : b < wr.heap.size := by omega
        go_wp2_with (at_builtin; refine wpList_append_own _ rfl _ _ 27 rfl w.heap.size 53 i0 _ 2 24 Try.underlying27 hi0 hz0 hz1 hz2 rfl (by decide) _ _ _ rfl (own.alloc _) ⟨wr.heap.size, 0, none⟩ 1 1 [.int .i64 f.ty, .string (bs f.body)] rfl rfl (fd_new _ _ _) (by intro u hu; simp at hu; rcases hu with rfl | rfl <;> rfl) (by unfold maxLen; omega) (by omega) (by simp; omega) ?_; intro v' w1 hown1 hgrow _)
        rw [HSN.out] at hown1
        have hB1 : Below w.heap.size w w1 := (hB.alloc hsz _).grown hgrow (by simp; omega) (fun g hg => (own.lt g hg).1)
        clear hgrow own
        go_wp2_with fail
        go_roundw
        case rel => exact ⟨k + 1, by omega, by go_num, hown1, hB1⟩
        case measure => simp [intOf]; omega
    · obtain rfl : k = l.length := by omega
      rw [List.take_length] at own
      go_wp2_with fail
      go_ret
      exact ⟨_, rfl, own, hB⟩
/-- How heavy fields are. -/
def fdHeavy : List Fd → Nat
  | [] => 0
  | f :: l => 1 + min f.body.length 8192 + fdHeavy l
theorem fdHeavy_snoc (l : List Fd) (f : Fd) : fdHeavy (l ++ [f]) = fdHeavy l + (1 + min f.body.length 8192) := by
  induction l with
  | nil => simp [fdHeavy]
  | cons g l ih => simp only [List.cons_append, fdHeavy, ih]; omega
theorem fdHeavy_take (l : List Fd) (k : Nat) : fdHeavy (l.take k) ≤ fdHeavy l := by
  induction l generalizing k with
  | nil => simp [fdHeavy]
  | cons g l ih =>
    cases k with
    | zero => simp [fdHeavy]
    | succ k =>
      have := ih k
      simp only [List.take_succ_cons, fdHeavy]
      omega
theorem fdHeavy_join : ∀ (l : List Fd), fdHeavy l ≤ 4096 → (fdJoin l).length ≤ 4 * fdHeavy l ∧ l.length ≤ fdHeavy l
  | [], _ => by simp [fdHeavy, fdJoin]
  | f :: l, h => by
    simp only [fdHeavy] at h
    obtain ⟨h1, h2⟩ := fdHeavy_join l (by omega)
    have e : fdJoin (f :: l) = fdEnc f ++ fdJoin l := by simp [fdJoin]
    rw [e, List.length_append, fdEnc_length, List.length_cons]
    simp only [fdHeavy]
    omega
set_option maxHeartbeats 3200000 in
theorem heavy_any (l : List Fd) (hl : (l.length : Int) ≤ 9223372036854775807) (hb : ∀ f ∈ l, (f.body.length : Int) ≤ 9223372036854775807) (v : Value) (w : World) (iv : FdIn w v l) :
    Calls Try.prog 14 #[v] w fun e w' => e = .returned (.bool (decide (4096 < fdHeavy l))) ∧ w = w' := by
  have hvl : ∃ x c, v = .slice x l.length c := by
    rcases iv with ⟨_, _, rfl, _, rfl⟩ | ⟨bb, bo, bc, rfl, _⟩
    · exact ⟨_, _, rfl⟩
    · exact ⟨_, _, rfl⟩
  obtain ⟨x, c, rfl⟩ := hvl
  have IV := Lib.hid iv
  clear iv
  go_enter Try.func14, Try.ntmps14
  go_wp2
  go_loop [3, 4] (fun n i => ∃ k : Nat, k ≤ l.length ∧ i = .int .i64 k ∧ n = .int .i64 (fdHeavy (l.take k) : Nat) ∧ fdHeavy (l.take k) ≤ 12289) (fun _ i => l.length - (intOf i).toNat)
  case atStart => exact ⟨0, Nat.zero_le _, rfl, rfl, by simp [fdHeavy]⟩
  case round =>
    obtain ⟨k, hk, rfl, rfl, hle⟩ := hrel
    have htk := fdHeavy_take l k
    by_cases hlt : k < l.length
    · rcases IV.out with ⟨_, _, _, _, rfl⟩ | ⟨b, off, cap, hv, hbl, hc⟩
      · simp at hlt
      · simp only [Value.slice.injEq] at hv
        obtain ⟨rfl, _, rfl⟩ := hv
        obtain ⟨a1, a2⟩ := hc k hlt
        have hsn := take_snoc l k hlt
        have hhs := fdHeavy_snoc (l.take k) (l.getD k ⟨0, []⟩)
        have hbf := hb _ (getD_mem l k hlt)
        have htk2 := fdHeavy_take l (k + 1)
        rw [hsn, hhs] at htk2
        clear hc
        generalize hf : l.getD k ⟨0, []⟩ = f at *
        clear hf
        have i0' : (0 : Int) ≤ (k : Int) := by omega
        have i1 : (k : Int) < (l.length : Int) := by omega
        have HSN := Lib.hid hsn
        have HHS := Lib.hid hhs
        clear hsn hhs
        generalize hq : fdHeavy (l.take k) = q at *
        clear hq
        by_cases hbig : 4096 < q
        · have hbi : ¬ (q : Int) ≤ 4096 := by omega
          have hd : decide (4096 < fdHeavy l) = true := decide_eq_true (by omega)
          have HD := Lib.hid hd
          clear hd htk htk2
          go_wp2_with fail
          go_ret
          exact ⟨ret1b (by rw [HD.out] <;> simp <;> omega), rfl⟩
        · have hbi : (q : Int) ≤ 4096 := by omega
          clear htk htk2
          have hmn : (f.body.length : Int) < 8192 ∨ (f.body.length : Int) = 8192 ∨ 8192 < (f.body.length : Int) := by omega
          rcases hmn with hm | hm | hm
          all_goals
            go_wp2_with fail
            go_round
            case rel => exact ⟨k + 1, by omega, by go_num, by rw [HSN.out, HHS.out]; congr 1; omega, by rw [HSN.out, HHS.out]; omega⟩
            case measure => simp [intOf]; omega
    · obtain rfl : k = l.length := by omega
      rw [List.take_length] at *
      generalize hq : fdHeavy l = q at *
      have HQ := Lib.hid hq
      clear hq
      go_wp2_with fail
      go_ret
      exact ⟨ret1b (by rw [HQ.out]; simp <;> omega), rfl⟩
end Go.Proofs.Ytdcpohbgbnbgmaa.W
