/- What the laws of layer 8 call besides: items made the reference's, compared. -/
import Derived.Test.YtcnfidfpgohpoaaAgH
import Derived.Outline
namespace Go.Proofs.Ytcnfidfpgohpoaa.W
open Go.RowKit Go.Sort
set_option linter.unusedVariables false
set_option linter.unusedSimpArgs false
theorem drewN_twice8 (w : World) (m n : Nat) : (w.drewN m).drewN n = w.drewN (m + n) := by simp [World.drewN, Nat.add_assoc]
def It.val (x : It) : Value := .agg #[.int .i64 x.at_, .int .i64 x.kind, .string (bs x.data), .int .i64 x.ticket]
theorem it_neq (x y : It) (w : World) : (binOp .neq 42 x.val y.val).run Try.prog w = .ok (.bool (!itEq x y)) w := by
  cases x with | mk a b c d =>
  cases y with | mk e f g h =>
  unfold It.val itEq
  simp only []
  by_cases h1 : a = e
  · by_cases h2 : b = f
    · by_cases h3 : c = g
      · by_cases h4 : d = h
        · simp [go_sem, h1, h2, h3, h4]
        · simp [go_sem, h1, h2, h3, h4]
      · have h3' : ¬ bs c = bs g := fun e => h3 (bs_inj e)
        simp [go_sem, h1, h2, h3, h3']
    · simp [go_sem, h1, h2]
  · simp [go_sem, h1]
theorem it_eql (x y : It) (w : World) : (binOp .eql 42 x.val y.val).run Try.prog w = .ok (.bool (itEq x y)) w := by
  cases x with | mk a b c d =>
  cases y with | mk e f g h =>
  unfold It.val itEq
  simp only []
  by_cases h1 : a = e
  · by_cases h2 : b = f
    · by_cases h3 : c = g
      · by_cases h4 : d = h
        · simp [go_sem, h1, h2, h3, h4]
        · simp [go_sem, h1, h2, h3, h4]
      · have h3' : ¬ bs c = bs g := fun e => h3 (bs_inj e)
        simp [go_sem, h1, h2, h3, h3']
    · simp [go_sem, h1, h2]
  · simp [go_sem, h1]
set_option maxHeartbeats 3200000 in
theorem rsame8_any {F G : Nat → Prop} (a b : List It) (ha : a.length ≤ 1000000) (hb : b.length ≤ 1000000) (va vb : Value) (w : World) (ia : SlAt F 4 itE w va a) (ib : SlAt G 4 itE w vb b) :
    Calls Try.prog 12 #[va, vb] w fun e w' => e = .returned (.bool (lSame itEq a b)) ∧ ∃ m, w' = w.drewN m := by
  obtain ⟨x, c, rfl⟩ := ia.slice
  obtain ⟨y, d, rfl⟩ := ib.slice
  by_cases hl : a.length = b.length
  · have IA := Lib.hid ia
    have IB := Lib.hid ib
    have hli : (a.length : Int) = b.length := by omega
    clear ia ib
    go_enter Try.func12, Try.ntmps12
    go_wp2
    go_loopw [5] (fun i wr => ∃ k m : Nat, k ≤ a.length ∧ i = .int .i64 k ∧ lSame itEq a b = lSame itEq (a.drop k) (b.drop k) ∧ wr = w.drewN m) (fun i _ => a.length - (intOf i).toNat)
    case atStart => exact ⟨0, 0, Nat.zero_le _, rfl, rfl, rfl⟩
    case round =>
      obtain ⟨k, m, hk, rfl, hs, rfl⟩ := hrel
      by_cases hlt : k < a.length
      · obtain ⟨e, he, _⟩ := at_index a k hlt
        obtain ⟨f, hf, _⟩ := at_index b k (by omega)
        rw [lSame_step itEq a b k e f he hf] at hs
        rcases IA.out with ⟨_, _, hv, _, rfl⟩ | ⟨ab, ao, ac, hv, _, hca⟩
        · simp at hlt
        · rcases IB.out with ⟨_, _, hw, _, rfl⟩ | ⟨bb, bo, bc, hw, _, hcb⟩
          · simp at hf
          · simp only [Value.slice.injEq] at hv hw
            obtain ⟨rfl, _, rfl⟩ := hv
            obtain ⟨rfl, _, rfl⟩ := hw
            have a0 : w.cell? ⟨ab, ao + k * 4, none⟩ = some (.int .i64 e.at_) := hca k e he 0 _ rfl
            have a1 : w.cell? ⟨ab, ao + k * 4 + 1, none⟩ = some (.int .i64 e.kind) := hca k e he 1 _ rfl
            have a2 : w.cell? ⟨ab, ao + k * 4 + 2, none⟩ = some (.string (bs e.data)) := hca k e he 2 _ rfl
            have a3 : w.cell? ⟨ab, ao + k * 4 + 3, none⟩ = some (.int .i64 e.ticket) := hca k e he 3 _ rfl
            have b0 : w.cell? ⟨bb, bo + k * 4, none⟩ = some (.int .i64 f.at_) := hcb k f hf 0 _ rfl
            have b1 : w.cell? ⟨bb, bo + k * 4 + 1, none⟩ = some (.int .i64 f.kind) := hcb k f hf 1 _ rfl
            have b2 : w.cell? ⟨bb, bo + k * 4 + 2, none⟩ = some (.string (bs f.data)) := hcb k f hf 2 _ rfl
            have b3 : w.cell? ⟨bb, bo + k * 4 + 3, none⟩ = some (.int .i64 f.ticket) := hcb k f hf 3 _ rfl
            have hn := it_neq e f
            unfold It.val at hn
            have i0 : (0 : Int) ≤ (k : Int) := by omega
            have i1 : (k : Int) < (a.length : Int) := by omega
            have i2 : (k : Int) < (b.length : Int) := by omega
            have HS := Lib.hid hs
            clear hs hca hcb he hf
            cases hq : itEq e f
            · rw [hq] at hn
              go_wp2_with fail
              go_quiet (fail)
              go_wp2_with fail
              go_ret
              exact ⟨by rw [HS.out, hq]; rfl, _, drewN_twice8 _ _ _⟩
            · rw [hq] at hn
              go_wp2_with fail
              go_quiet (fail)
              go_wp2_with fail
              go_roundw
              case rel => exact ⟨k + 1, _, by omega, by go_num, by rw [HS.out, hq]; rfl, by first | exact drewN_twice8 _ _ _ | exact rfl⟩
              case measure => simp [intOf]; omega
      · obtain rfl : k = a.length := by omega
        rw [List.drop_of_length_le (Nat.le_refl _), List.drop_of_length_le (by omega)] at hs
        have HS := Lib.hid hs
        clear hs
        go_wp2_with fail
        go_ret
        exact ⟨by rw [HS.out]; rfl, _, rfl⟩
  · have hl' : ¬ (a.length : Int) = b.length := by omega
    have hf : lSame itEq a b = false := by
      cases h : lSame itEq a b
      · rfl
      · exact absurd (congrArg List.length ((lSame_iff itEq_iff a b).1 h)) hl
    rw [hf]
    clear hl hf ia ib
    go_enter Try.func12, Try.ntmps12
    go_wp2
    go_ret
    exact ⟨rfl, 0, rfl⟩
set_option maxHeartbeats 3200000 in
theorem theirs8_any {F : Nat → Prop} (l : List It) (hl : l.length ≤ 1000000) (v : Value) (w : World) (hF : ∀ k, F k → k < w.heap.size) (iv : SlAt F 4 itE w v l) :
    Calls Try.prog 13 #[v] w fun e w' => ∃ v', e = .returned v' ∧ SlAt (fun b => w.heap.size ≤ b ∧ b < w'.heap.size) 4 itE w' v' l ∧ Below w.heap.size w w' := by
  obtain ⟨x, c, rfl⟩ := iv.slice
  obtain ⟨i0, hi0, hz0, hz1, hz2⟩ := info_parts info_It
  have IV := Lib.hid iv
  clear iv
  go_enter Try.func13, Try.ntmps13
  go_wp2
  go_loopw [3, 4] (fun v i wr => ∃ k : Nat, k ≤ l.length ∧ i = .int .i64 k ∧ wr.ownsRow w.heap.size 42 4 v k ((l.take k).flatMap itE) ∧ Below w.heap.size w wr) (fun _ i _ => l.length - (intOf i).toNat)
  case atStart => exact ⟨0, Nat.zero_le _, rfl, ownsRow_fresh _ _ _ _ (Nat.le_refl _), (Below.refl _ _).alloc (Nat.le_refl _) _⟩
  case round =>
    obtain ⟨k, hk, rfl, own, hB⟩ := hrel
    have hsz := hB.size
    by_cases hlt : k < l.length
    · obtain ⟨f, hf, _⟩ := at_index l k hlt
      rcases IV.out with ⟨_, _, _, _, rfl⟩ | ⟨b, off, cap, hv, hb, hc⟩
      · simp at hlt
      · simp only [Value.slice.injEq] at hv
        obtain ⟨rfl, _, rfl⟩ := hv
        have hbl := hF b hb
        have a0 : wr.cell? ⟨b, off + k * 4, none⟩ = some (.int .i64 f.at_) := ((bcell hB).1 b _ hbl).trans (hc k f hf 0 _ rfl)
        have a1 : wr.cell? ⟨b, off + k * 4 + 1, none⟩ = some (.int .i64 f.kind) := ((bcell hB).1 b _ hbl).trans (hc k f hf 1 _ rfl)
        have a2 : wr.cell? ⟨b, off + k * 4 + 2, none⟩ = some (.string (bs f.data)) := ((bcell hB).1 b _ hbl).trans (hc k f hf 2 _ rfl)
        have a3 : wr.cell? ⟨b, off + k * 4 + 3, none⟩ = some (.int .i64 f.ticket) := ((bcell hB).1 b _ hbl).trans (hc k f hf 3 _ rfl)
        have hsn := take_next l k f hf
        have i0' : (0 : Int) ≤ (k : Int) := by omega
        have i1 : (k : Int) < (l.length : Int) := by omega
        have HSN := Lib.hid hsn
        clear hsn hc hf
        have hblr : b < wr.heap.size := by omega
        go_wp2_with (at_builtin; refine wpList_append_own _ rfl _ _ 28 rfl w.heap.size 42 i0 _ 4 40 Try.underlying28 hi0 hz0 hz1 hz2 rfl (by decide) _ _ _ rfl (own.alloc _) ⟨wr.heap.size, 0, none⟩ 1 1 [.int .i64 f.at_, .int .i64 f.kind, .string (bs f.data), .int .i64 f.ticket] rfl rfl (it_row _ f _) (itE_one f) (by unfold maxLen; omega) (by omega) (by simp; omega) ?_; intro v' w1 hown1 hgrow _)
        rw [it_snoc, ← HSN.out] at hown1
        have hB1 : Below w.heap.size w w1 := (hB.alloc hsz _).grown hgrow (by simp; omega) (fun g hg => (own.lt g hg).1)
        clear hgrow own
        go_wp2_with fail
        go_roundw
        case rel => exact ⟨k + 1, by omega, by go_num, hown1, hB1⟩
        case measure => simp [intOf]; omega
    · obtain rfl : k = l.length := by omega
      rw [List.take_length] at own
      go_wp2_with fail
      go_ret
      exact ⟨_, rfl, SlAt.own itE_length own, hB⟩
end Go.Proofs.Ytcnfidfpgohpoaa.W
