/- What the laws of layer 7 call besides: entries made the reference's, compared. -/
import Derived.Test.YtaklalpbncdijaaLgD
import Derived.Outline
namespace Go.Proofs.Ytaklalpbncdijaa.W
open Go.RowKit Go.Sort
set_option linter.unusedVariables false
set_option linter.unusedSimpArgs false
theorem drewN_twice (w : World) (m n : Nat) : (w.drewN m).drewN n = w.drewN (m + n) := by simp [World.drewN, Nat.add_assoc]
def enEq (a b : En) : Bool := decide (a.at_ = b.at_) && decide (a.by_ = b.by_) && (a.step == b.step)
theorem enEq_iff (a b : En) : enEq a b = true ↔ a = b := by
  cases a; cases b
  simp [enEq, and_assoc]
def En.val (e : En) : Value := .agg #[.int .i64 e.at_, .int .i64 e.by_, .bool e.step]
theorem en_neq (x y : En) (w : World) : (binOp .neq 62 x.val y.val).run Try.prog w = .ok (.bool (!enEq x y)) w := by
  cases x with | mk a b c =>
  cases y with | mk d e f =>
  unfold En.val enEq
  simp only []
  by_cases h1 : a = d
  · by_cases h2 : b = e
    · subst h1; subst h2
      cases c <;> cases f <;> simp [go_sem]
    · simp [go_sem, h1, h2]
  · simp [go_sem, h1]
set_option maxHeartbeats 3200000 in
theorem rsame7_any {F G : Nat → Prop} (a b : List En) (ha : a.length ≤ 1000000) (hb : b.length ≤ 1000000) (va vb : Value) (w : World) (ia : SlAt F 3 enE w va a) (ib : SlAt G 3 enE w vb b) :
    Calls Try.prog 14 #[va, vb] w fun e w' => e = .returned (.bool (lSame enEq a b)) ∧ ∃ m, w' = w.drewN m := by
  obtain ⟨x, c, rfl⟩ := ia.slice
  obtain ⟨y, d, rfl⟩ := ib.slice
  by_cases hl : a.length = b.length
  · have IA := Lib.hid ia
    have IB := Lib.hid ib
    have hli : (a.length : Int) = b.length := by omega
    clear ia ib
    go_enter Try.func14, Try.ntmps14
    go_wp2
    go_loopw [5] (fun i wr => ∃ k m : Nat, k ≤ a.length ∧ i = .int .i64 k ∧ lSame enEq a b = lSame enEq (a.drop k) (b.drop k) ∧ wr = w.drewN m) (fun i _ => a.length - (intOf i).toNat)
    case atStart => exact ⟨0, 0, Nat.zero_le _, rfl, rfl, rfl⟩
    case round =>
      obtain ⟨k, m, hk, rfl, hs, rfl⟩ := hrel
      by_cases hlt : k < a.length
      · obtain ⟨e, he, _⟩ := at_index a k hlt
        obtain ⟨f, hf, _⟩ := at_index b k (by omega)
        rw [lSame_step enEq a b k e f he hf] at hs
        rcases IA.out with ⟨_, _, hv, _, rfl⟩ | ⟨ab, ao, ac, hv, _, hca⟩
        · simp at hlt
        · rcases IB.out with ⟨_, _, hw, _, rfl⟩ | ⟨bb, bo, bc, hw, _, hcb⟩
          · simp at hf
          · simp only [Value.slice.injEq] at hv hw
            obtain ⟨rfl, _, rfl⟩ := hv
            obtain ⟨rfl, _, rfl⟩ := hw
            have a0 : w.cell? ⟨ab, ao + k * 3, none⟩ = some (.int .i64 e.at_) := hca k e he 0 _ rfl
            have a1 : w.cell? ⟨ab, ao + k * 3 + 1, none⟩ = some (.int .i64 e.by_) := hca k e he 1 _ rfl
            have a2 : w.cell? ⟨ab, ao + k * 3 + 2, none⟩ = some (.bool e.step) := hca k e he 2 _ rfl
            have b0 : w.cell? ⟨bb, bo + k * 3, none⟩ = some (.int .i64 f.at_) := hcb k f hf 0 _ rfl
            have b1 : w.cell? ⟨bb, bo + k * 3 + 1, none⟩ = some (.int .i64 f.by_) := hcb k f hf 1 _ rfl
            have b2 : w.cell? ⟨bb, bo + k * 3 + 2, none⟩ = some (.bool f.step) := hcb k f hf 2 _ rfl
            have hn := en_neq e f
            unfold En.val at hn
            have i0 : (0 : Int) ≤ (k : Int) := by omega
            have i1 : (k : Int) < (a.length : Int) := by omega
            have i2 : (k : Int) < (b.length : Int) := by omega
            have HS := Lib.hid hs
            clear hs hca hcb he hf
            cases hq : enEq e f
            · rw [hq] at hn
              go_wp2_with fail
              go_quiet (fail)
              go_wp2_with fail
              go_ret
              exact ⟨by rw [HS.out, hq]; rfl, _, drewN_twice _ _ _⟩
            · rw [hq] at hn
              go_wp2_with fail
              go_quiet (fail)
              go_wp2_with fail
              go_roundw
              case rel => exact ⟨k + 1, _, by omega, by go_num, by rw [HS.out, hq]; rfl, by first | exact drewN_twice _ _ _ | exact rfl⟩
              case measure => simp [intOf]; omega
      · obtain rfl : k = a.length := by omega
        rw [List.drop_of_length_le (Nat.le_refl _), List.drop_of_length_le (by omega)] at hs
        have HS := Lib.hid hs
        clear hs
        go_wp2_with fail
        go_ret
        exact ⟨by rw [HS.out]; rfl, _, rfl⟩
  · have hl' : ¬ (a.length : Int) = b.length := by omega
    have hf : lSame enEq a b = false := by
      cases h : lSame enEq a b
      · rfl
      · exact absurd (congrArg List.length ((lSame_iff enEq_iff a b).1 h)) hl
    rw [hf]
    clear hl hf ia ib
    go_enter Try.func14, Try.ntmps14
    go_wp2
    go_ret
    exact ⟨rfl, 0, rfl⟩
set_option maxHeartbeats 3200000 in
theorem theirs7_any {F : Nat → Prop} (l : List En) (hl : l.length ≤ 1000000) (v : Value) (w : World) (hF : ∀ k, F k → k < w.heap.size) (iv : SlAt F 3 enE w v l) :
    Calls Try.prog 15 #[v] w fun e w' => ∃ v', e = .returned v' ∧ SlAt (fun b => w.heap.size ≤ b ∧ b < w'.heap.size) 3 enE w' v' l ∧ Below w.heap.size w w' := by
  obtain ⟨x, c, rfl⟩ := iv.slice
  obtain ⟨i0, hi0, hz0, hz1, hz2⟩ := info_parts info_En
  have IV := Lib.hid iv
  clear iv
  go_enter Try.func15, Try.ntmps15
  go_wp2
  go_loopw [3, 4] (fun v i wr => ∃ k : Nat, k ≤ l.length ∧ i = .int .i64 k ∧ wr.ownsRow w.heap.size 62 3 v k ((l.take k).flatMap enE) ∧ Below w.heap.size w wr) (fun _ i _ => l.length - (intOf i).toNat)
  case atStart => exact ⟨0, Nat.zero_le _, rfl, ownsRow_fresh _ _ _ _ (Nat.le_refl _), (Below.refl _ _).alloc (Nat.le_refl _) _⟩
  case round =>
    obtain ⟨k, hk, rfl, own, hB⟩ := hrel
    have hsz := hB.size
    by_cases hlt : k < l.length
    · obtain ⟨f, hf, _⟩ := at_index l k hlt
      rcases IV.out with ⟨_, _, _, _, rfl⟩ | ⟨b, off, cap, hv, hb, hc⟩
      · simp at hlt
      · simp only [Value.slice.injEq] at hv
        obtain ⟨rfl, _, rfl⟩ := hv
        have hbl := hF b hb
        have a0 : wr.cell? ⟨b, off + k * 3, none⟩ = some (.int .i64 f.at_) := ((bcell hB).1 b _ hbl).trans (hc k f hf 0 _ rfl)
        have a1 : wr.cell? ⟨b, off + k * 3 + 1, none⟩ = some (.int .i64 f.by_) := ((bcell hB).1 b _ hbl).trans (hc k f hf 1 _ rfl)
        have a2 : wr.cell? ⟨b, off + k * 3 + 2, none⟩ = some (.bool f.step) := ((bcell hB).1 b _ hbl).trans (hc k f hf 2 _ rfl)
        have hsn := take_next l k f hf
        have i0' : (0 : Int) ≤ (k : Int) := by omega
        have i1 : (k : Int) < (l.length : Int) := by omega
        have HSN := Lib.hid hsn
        clear hsn hc hf
        have hblr : b < wr.heap.size := by omega
        go_wp2_with (at_builtin; refine wpList_append_own _ rfl _ _ 32 rfl w.heap.size 62 i0 _ 3 24 Try.underlying32 hi0 hz0 hz1 hz2 rfl (by decide) _ _ _ rfl (own.alloc _) ⟨wr.heap.size, 0, none⟩ 1 1 [.int .i64 f.at_, .int .i64 f.by_, .bool f.step] rfl rfl (new_row3 _ _ _ _ _) (enE_one f) (by unfold maxLen; omega) (by omega) (by simp; omega) ?_; intro v' w1 hown1 hgrow _)
        rw [flat_snoc, ← HSN.out] at hown1
        have hB1 : Below w.heap.size w w1 := (hB.alloc hsz _).grown hgrow (by simp; omega) (fun g hg => (own.lt g hg).1)
        clear hgrow own
        go_wp2_with fail
        go_roundw
        case rel => exact ⟨k + 1, by omega, by go_num, hown1, hB1⟩
        case measure => simp [intOf]; omega
    · obtain rfl : k = l.length := by omega
      rw [List.take_length] at own
      go_wp2_with fail
      go_ret
      exact ⟨_, rfl, SlAt.own enE_length own, hB⟩
end Go.Proofs.Ytaklalpbncdijaa.W
