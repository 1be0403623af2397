/- What the laws of layer 8 call besides: the bound; an agenda of the code's alone; the small case that must go well. -/
import Derived.Test.YtcnfidfpgohpoaaAgJ
namespace Go.Proofs.Ytcnfidfpgohpoaa.W
open Go.RowKit Go.Sort
set_option linter.unusedVariables false
set_option linter.unusedSimpArgs false
def HvR (l : List Bc) (e : Ending) : Prop := ∃ b, e = .returned (.bool b) ∧ (b = false → l.length ≤ 200)
theorem HvR.intro {l : List Bc} {e : Ending} (b : Bool) (he : e = .returned (.bool b)) (h : b = false → l.length ≤ 200) : HvR l e := ⟨b, he, h⟩
set_option maxHeartbeats 3200000 in
theorem heavy8_any (l : List Bc) (hlm : l.length ≤ maxLen) (hd : ∀ x ∈ l, x.data.length ≤ maxLen) (v : Value) (w : World) {F : Nat → Prop} (hF : ∀ k, F k → k < w.heap.size) (iv : SlAt F 5 bcE w v l) :
    Calls Try.prog 8 #[v] w fun e w' => HvR l e ∧ w = w' := by
  obtain ⟨x, c, rfl⟩ := iv.slice
  by_cases hl : 200 < l.length
  · have hli : 200 < (l.length : Int) := by omega
    clear iv
    go_enter Try.func8, Try.ntmps8
    go_wp2
    go_ret
    exact ⟨HvR.intro _ rfl (by simp), rfl⟩
  · have hli : ¬ 200 < (l.length : Int) := by omega
    have IV := Lib.hid iv
    have HL := Lib.hid (show l.length ≤ 200 by omega)
    clear iv
    go_enter Try.func8, Try.ntmps8
    go_wp2
    go_loop [3, 4] (fun n i => ∃ k q : Nat, k ≤ l.length ∧ i = .int .i64 k ∧ n = .int .i64 q ∧ q ≤ 12288) (fun _ i => l.length - (intOf i).toNat)
    case atStart => exact ⟨0, 0, Nat.zero_le _, rfl, rfl, by omega⟩
    case round =>
      obtain ⟨k, q, hk, rfl, rfl, hq⟩ := hrel
      by_cases hlt : k < l.length
      · obtain ⟨f, hf, hfm⟩ := at_index l k hlt
        rcases IV.out with ⟨_, _, _, _, rfl⟩ | ⟨b, off, cap, hv, hbl, hc⟩
        · simp at hlt
        · simp only [Value.slice.injEq] at hv
          obtain ⟨rfl, _, rfl⟩ := hv
          have a4 : w.cell? ⟨b, off + k * 5 + 4, none⟩ = some (.string (bs f.data)) := hc k f hf 4 _ rfl
          have hz : (bs f.data).size = f.data.length := by show f.data.toArray.size = _; simp
          have hdl := hd f hfm
          have i0' : (0 : Int) ≤ (k : Int) := by omega
          have i1 : (k : Int) < (l.length : Int) := by omega
          have hblt := hF b hbl
          clear hc hf hfm hd
          obtain ⟨dl, hdd⟩ : ∃ dl : Nat, (bs f.data).size = dl := ⟨_, rfl⟩
          generalize bs f.data = D at *
          by_cases hbig : q ≤ 8192
          · have hbi : (q : Int) ≤ 8192 := by omega
            have hmn : (D.size : Int) < 4096 ∨ (D.size : Int) = 4096 ∨ 4096 < (D.size : Int) := by omega
            rcases hmn with hm | hm | hm
            · go_wp2_with fail
              go_round
              case rel => exact ⟨k + 1, q + D.size, by omega, by go_num, by go_num, by omega⟩
              case measure => simp [intOf]; omega
            · go_wp2_with fail
              go_round
              case rel => exact ⟨k + 1, q + 4096, by omega, by go_num, by go_num, by omega⟩
              case measure => simp [intOf]; omega
            · go_wp2_with fail
              go_round
              case rel => exact ⟨k + 1, q + 4096, by omega, by go_num, by go_num, by omega⟩
              case measure => simp [intOf]; omega
          · have hbi : ¬ (q : Int) ≤ 8192 := by omega
            go_wp2_with fail
            go_ret
            exact ⟨HvR.intro _ rfl (fun _ => HL.out), rfl⟩
      · obtain rfl : k = l.length := by omega
        go_wp2_with fail
        go_ret
        exact ⟨HvR.intro _ rfl (fun _ => HL.out), rfl⟩
/-- An agenda of the code's alone, apart from the blocks of K, which stand. -/
structure One8 (w0 w : World) (K : Nat → Prop) (pc : Nat) (a : Ag) : Prop where
  one : ∃ F, AgIn F w pc a ∧ (∀ k, F k → w0.heap.size ≤ k) ∧ (∀ k, F k → ¬ K k)
  low : ∀ k, K k → k < w.heap.size
  below : Below w0.heap.size w0 w
theorem One8.kept {w0 w w' : World} {K : Nat → Prop} {pc : Nat} {a : Ag} (h : One8 w0 w K pc a) (t : Below w.heap.size w w') : One8 w0 w' K pc a := by
  obtain ⟨⟨F, h1, h2, h3⟩, hl, hB⟩ := h
  exact ⟨⟨F, h1.below t, h2, h3⟩, fun k hk => Nat.lt_of_lt_of_le (hl k hk) t.size, hB.trans (t.mono hB.size)⟩
/-- New blocks are kept from now on. -/
theorem One8.more {w0 w w' : World} {K : Nat → Prop} {pc : Nat} {a : Ag} (h : One8 w0 w K pc a) (t : Below w.heap.size w w') : One8 w0 w' (fun k => K k ∨ (w.heap.size ≤ k ∧ k < w'.heap.size)) pc a := by
  have h' := h.kept t
  obtain ⟨⟨F, h1, h2, h3⟩, hl, hB⟩ := h
  refine ⟨⟨F, h1.below t, h2, fun k hk hK => ?_⟩, fun k hk => ?_, h'.below⟩
  · rcases hK with hK | hK
    · exact h3 k hk hK
    · have := h1.lt k hk
      omega
  · rcases hk with hk | hk
    · exact Nat.lt_of_lt_of_le (hl k hk) t.size
    · exact hk.2
theorem One8.less {w0 w : World} {K K' : Nat → Prop} {pc : Nat} {a : Ag} (h : One8 w0 w K pc a) (hK : ∀ k, K' k → K k) : One8 w0 w K' pc a := by
  obtain ⟨⟨F, h1, h2, h3⟩, hl, hB⟩ := h
  exact ⟨⟨F, h1, h2, fun k hk hK' => h3 k hk (hK k hK')⟩, fun k hk => hl k (hK k hk), hB⟩
theorem One8.step {w0 w w' : World} {K : Nat → Prop} {pc : Nat} {a b : Ag} {F : Nat → Prop} (h : One8 w0 w K pc a) (hF : ∀ k, F k → w0.heap.size ≤ k) (hK : ∀ k, F k → ¬ K k) (t : Touch F w w') (h' : AgIn (Gr F w w') w' pc b) : One8 w0 w' K pc b ∧ ∀ k, K k → w'.heap[k]? = w.heap[k]? := by
  have hB := h.below
  refine ⟨⟨⟨_, h', ?_, ?_⟩, fun k hk => Nat.lt_of_lt_of_le (h.low k hk) t.size, t.below hB hB.size hF⟩, fun k hk => t.block k (h.low k hk) (fun e => hK k e hk)⟩
  · rintro k (hk | hk)
    · exact hF k hk
    · have := hB.size
      omega
  · rintro k (hk | hk) hkk
    · exact hK k hk hkk
    · have := h.low k hkk
      omega
theorem onew8_any (w0 w : World) (h : Below w0.heap.size w0 w) :
    Calls Try.prog 10 #[] w fun e w' => ∃ p, e = .returned (.pointer (some ⟨p, 0, none⟩)) ∧ One8 w0 w' (fun k => k < w.heap.size) p agNew ∧ Below w.heap.size w w' :=
  (gnew_any w).mono fun e w' ⟨p, he, hC, hB⟩ => ⟨p, he, ⟨⟨_, hC, fun k hk => Nat.le_trans h.size hk.1, fun k hk hn => by have := hk.1; omega⟩, fun k hk => Nat.lt_of_lt_of_le hk hB.size, h.trans (hB.mono h.size)⟩, hB⟩
theorem oput8_any {w0 w : World} {K : Nat → Prop} {pc : Nat} {a : Ag} (ok : a.Ok) (n1 : a.n ≤ 1000000) (at_ kind : Int) (data : List UInt8) (t0 : -9223372036854775808 ≤ at_) (t1 : at_ ≤ 9223372036854775807) (k0 : -9223372036854775808 ≤ kind) (k1 : kind ≤ 9223372036854775807) (hd : data.length ≤ maxLen) (h : One8 w0 w K pc a) :
    Calls Try.prog 18 #[.pointer (some ⟨pc, 0, none⟩), .int .i64 at_, .int .i64 kind, .string (bs data)] w fun e w' => e = .returned (.tuple #[.int .i64 (putN a at_ kind data), .int .i64 (putE a at_ kind data)]) ∧ One8 w0 w' K pc (putS a at_ kind data) ∧ ∀ k, K k → w'.heap[k]? = w.heap[k]? := by
  obtain ⟨F, h1, h2, h3⟩ := h.one
  exact (gput_any ok n1 at_ kind data t0 t1 k0 k1 hd w h1).mono fun e w' ⟨he, hC, t⟩ => ⟨he, One8.step h h2 h3 t hC⟩
theorem ocan8_any {w0 w : World} {K : Nat → Prop} {pc : Nat} {a : Ag} (ok : a.Ok) (n1 : a.n ≤ 1000000) (t : Int) (t0 : -9223372036854775808 ≤ t) (t1 : t ≤ 9223372036854775807) (h : One8 w0 w K pc a) :
    Calls Try.prog 19 #[.pointer (some ⟨pc, 0, none⟩), .int .i64 t] w fun e w' => e = .returned (.int .i64 (canE a t)) ∧ One8 w0 w' K pc (canS a t) ∧ ∀ k, K k → w'.heap[k]? = w.heap[k]? := by
  obtain ⟨F, h1, h2, h3⟩ := h.one
  exact (gcan_any ok n1 t t0 t1 w h1).mono fun e w' ⟨he, hC, t⟩ => ⟨he, One8.step h h2 h3 t hC⟩
theorem omov8_any {w0 w : World} {K : Nat → Prop} {pc : Nat} {a : Ag} (ok : a.Ok) (n1 : a.n ≤ 1000000) (t at_ : Int) (t0 : -9223372036854775808 ≤ t) (t1 : t ≤ 9223372036854775807) (k0 : -9223372036854775808 ≤ at_) (k1 : at_ ≤ 9223372036854775807) (h : One8 w0 w K pc a) :
    Calls Try.prog 20 #[.pointer (some ⟨pc, 0, none⟩), .int .i64 t, .int .i64 at_] w fun e w' => e = .returned (.int .i64 (movE a t at_)) ∧ One8 w0 w' K pc (movS a t at_) ∧ ∀ k, K k → w'.heap[k]? = w.heap[k]? := by
  obtain ⟨F, h1, h2, h3⟩ := h.one
  exact (gmov_any ok n1 t at_ t0 t1 k0 k1 w h1).mono fun e w' ⟨he, hC, t⟩ => ⟨he, One8.step h h2 h3 t hC⟩
theorem odbl8_any {w0 w : World} {K : Nat → Prop} {pc : Nat} {a : Ag} (ok : a.Ok) (n1 : a.n ≤ 1000000) (t at_ : Int) (t0 : -9223372036854775808 ≤ t) (t1 : t ≤ 9223372036854775807) (k0 : -9223372036854775808 ≤ at_) (k1 : at_ ≤ 9223372036854775807) (h : One8 w0 w K pc a) :
    Calls Try.prog 21 #[.pointer (some ⟨pc, 0, none⟩), .int .i64 t, .int .i64 at_] w fun e w' => e = .returned (.tuple #[.int .i64 (dblN a t at_), .int .i64 (dblE a t at_)]) ∧ One8 w0 w' K pc (dblS a t at_) ∧ ∀ k, K k → w'.heap[k]? = w.heap[k]? := by
  obtain ⟨F, h1, h2, h3⟩ := h.one
  exact (gdbl_any ok n1 t at_ t0 t1 k0 k1 w h1).mono fun e w' ⟨he, hC, t⟩ => ⟨he, One8.step h h2 h3 t hC⟩
theorem otak8_any {w0 w : World} {K : Nat → Prop} {pc : Nat} {a : Ag} (ok : a.Ok) (n1 : a.n ≤ 1000000) (now : Int) (t0 : -9223372036854775808 ≤ now) (t1 : now ≤ 9223372036854775807) (h : One8 w0 w K pc a) :
    Calls Try.prog 17 #[.pointer (some ⟨pc, 0, none⟩), .int .i64 now] w fun e w' => e = .returned (.tuple #[.agg #[.int .i64 (takV a now).at_, .int .i64 (takV a now).kind, .string (bs (takV a now).data), .int .i64 (takV a now).ticket], .bool (dueB a now)]) ∧ One8 w0 w' K pc (takS a now) ∧ ∀ k, K k → w'.heap[k]? = w.heap[k]? := by
  obtain ⟨F, h1, h2, h3⟩ := h.one
  exact (gtak_any ok n1 now t0 t1 w h1).mono fun e w' ⟨he, hC, t⟩ => ⟨he, One8.step h h2 h3 t hC⟩
theorem onext8_any {w0 w : World} {K : Nat → Prop} {pc : Nat} {a : Ag} (ok : a.Ok) (n1 : a.n ≤ 1000000) (h : One8 w0 w K pc a) :
    Calls Try.prog 15 #[.pointer (some ⟨pc, 0, none⟩)] w fun e w' => e = .returned (.tuple #[.agg #[.int .i64 (nextV a).at_, .int .i64 (nextV a).kind, .string (bs (nextV a).data), .int .i64 (nextV a).ticket], .bool (nextB a)]) ∧ Below w.heap.size w w' := by
  obtain ⟨F, h1, h2, h3⟩ := h.one
  exact gnext_any ok n1 w h1
theorem olist8_any {w0 w : World} {K : Nat → Prop} {pc : Nat} {a : Ag} (ok : a.Ok) (n1 : a.n ≤ 1000000) (h : One8 w0 w K pc a) :
    Calls Try.prog 14 #[.pointer (some ⟨pc, 0, none⟩)] w fun e w' => ∃ v, e = .returned v ∧ SlAt (fun b => w.heap.size ≤ b ∧ b < w'.heap.size) 4 itE w' v a.l ∧ Below w.heap.size w w' := by
  obtain ⟨F, h1, h2, h3⟩ := h.one
  exact glist_any ok n1 w h1
set_option maxHeartbeats 3200000 in
theorem shown8_any (w : World) : Calls Try.prog 9 #[] w fun e w' => e = .returned (.bool true) ∧ Below w.heap.size w w' := by
  have z := fun w' => onew8_any w w'
  have v1 : putE agNew 3 1 [120] = 0 := by decide
  have v2 : putN agNew 3 1 [120] = 1 := by decide
  have ok1 := put_ok agNew_ok 3 1 [120] (by decide)
  have v3 : nextV (putS agNew 3 1 [120]) = ⟨3, 1, [120], 1⟩ := by rfl
  have v4 : nextB (putS agNew 3 1 [120]) = true := by rfl
  have v5 : (putS agNew 3 1 [120]).n ≤ 1000000 := by decide
  have y1 := fun w' K pc (h : One8 w w' K pc agNew) => oput8_any agNew_ok (by decide) 3 1 [120] (by decide) (by decide) (by decide) (by decide) (by unfold maxLen; decide) h
  have y2 := fun w' K pc (h : One8 w w' K pc (putS agNew 3 1 [120])) => onext8_any ok1 v5 h
  rw [v1, v2] at y1
  rw [v3, v4] at y2
  generalize putS agNew 3 1 [120] = a1 at *
  generalize agNew = a0 at *
  clear v1 v2 v3 v4 v5 ok1
  have hbs : bs [120] = { data := #[120] } := rfl
  rw [hbs] at y1
  simp only [hbs] at y2
  go_enter Try.func9, Try.ntmps9
  go_wp2_with fail
  (with_reducible refine (z _ (Below.refl _ _)).mono ?_)
  rintro e w1 ⟨p, rfl, h1, hB1⟩
  go_wp2_with fail
  (with_reducible refine (y1 _ _ _ h1).mono ?_)
  rintro e w2 ⟨rfl, h2, _⟩
  go_wp2_with fail
  (with_reducible refine (y2 _ _ _ h2).mono ?_)
  rintro e w3 ⟨rfl, hB3⟩
  have hB := h2.below.trans (hB3.mono h2.below.size)
  go_wp2_with fail
  go_ret
  have hz := hB.size
  exact ⟨rfl, by repeat' (first | (with_reducible exact Below.refl _ _) | (with_reducible assumption) | (with_reducible refine below_drewN ?_ _) | (with_reducible refine Below.drew ?_) | (with_reducible refine Below.setCell ?_ ?_ _) | (with_reducible refine Below.alloc ?_ ?_ _) | (simp; done) | (simp; omega) | omega)⟩
theorem Both8.cells {w0 w : World} {pc pr : Nat} {a : Ag} (h : Both8 w0 w pc pr a) : ∃ v, w.cell? ⟨pr, 0, none⟩ = some v ∧ SlAt (fun b => b < w.heap.size) 4 itE w v a.l := by
  obtain ⟨⟨F, G, h1, h2, _⟩, _⟩ := h
  obtain ⟨h3, h4, v, h5, h6⟩ := h2
  obtain ⟨q0, q1, _⟩ := two_cells h5
  exact ⟨v, q0, h6.mono (fun b hb => h4 b hb.1)⟩
theorem blist8_any {w0 w : World} {pc pr : Nat} {a : Ag} (ok : a.Ok) (n1 : a.n ≤ 1000000) (h : Both8 w0 w pc pr a) :
    Calls Try.prog 14 #[.pointer (some ⟨pc, 0, none⟩)] w fun e w' => ∃ v, e = .returned v ∧ SlAt (fun b => w.heap.size ≤ b ∧ b < w'.heap.size) 4 itE w' v a.l ∧ Below w.heap.size w w' := by
  obtain ⟨F, G, h1, _⟩ := h.both
  exact glist_any ok n1 w h1
theorem bnext8_any {w0 w : World} {pc pr : Nat} {a : Ag} (ok : a.Ok) (n1 : a.n ≤ 1000000) (h : Both8 w0 w pc pr a) :
    Calls Try.prog 15 #[.pointer (some ⟨pc, 0, none⟩)] w fun e w' => e = .returned (.tuple #[.agg #[.int .i64 (nextV a).at_, .int .i64 (nextV a).kind, .string (bs (nextV a).data), .int .i64 (nextV a).ticket], .bool (nextB a)]) ∧ Below w.heap.size w w' := by
  obtain ⟨F, G, h1, _⟩ := h.both
  exact gnext_any ok n1 w h1
theorem brnext8_any {w0 w : World} {pc pr : Nat} {a : Ag} (ok : a.Ok) (n1 : a.n ≤ 1000000) (h : Both8 w0 w pc pr a) :
    Calls Try.prog 16 #[.pointer (some ⟨pr, 0, none⟩)] w fun e w' => e = .returned (.tuple #[.agg #[.int .i64 (nextV a).at_, .int .i64 (nextV a).kind, .string (bs (nextV a).data), .int .i64 (nextV a).ticket], .bool (nextB a)]) ∧ Below w.heap.size w w' := by
  obtain ⟨F, G, _, h2, _⟩ := h.both
  exact rnext_any (by have := ok.room; omega) w h2
/-- Both agendas, new. -/
theorem bnew8 {w0 w w1 : World} {K : Nat → Prop} {pc : Nat} (h : One8 w0 w K pc agNew) (hR : RaIn (fun k => k = w.heap.size) w1 w.heap.size agNew) (hB : Below w.heap.size w w1) : Both8 w0 w1 pc w.heap.size agNew := by
  obtain ⟨⟨F, h1, h2, _⟩, _, hB0⟩ := h
  refine ⟨⟨F, _, h1.below hB, hR, ?_, h2, ?_⟩, hB0.trans (hB.mono hB0.size)⟩
  · rintro k hk rfl
    exact Nat.lt_irrefl _ (h1.lt _ hk)
  · rintro k rfl
    exact hB0.size
def bcsS (a : Ag) (l : List Bc) : Ag := l.foldl bcS a
theorem bcs_ok {a : Ag} (h : a.Ok) : ∀ l : List Bc, (∀ x ∈ l, x.Typed) → (bcsS a l).Ok := by
  intro l
  unfold bcsS
  induction l generalizing a with
  | nil => exact fun _ => h
  | cons x l ih => exact fun ht => ih (bc_ok h x (ht x (List.mem_cons_self ..))) (fun y hy => ht y (List.mem_cons_of_mem _ hy))
theorem bcs_n (a : Ag) : ∀ l : List Bc, (bcsS a l).n ≤ a.n + l.length := by
  intro l
  unfold bcsS
  induction l generalizing a with
  | nil => simp
  | cons x l ih =>
    have h1 := ih (bcS a x)
    have h2 := bc_n a x
    simp only [List.foldl_cons, List.length_cons]
    omega
theorem bcs_next (a : Ag) (l : List Bc) (k : Nat) (x : Bc) (h : l[k]? = some x) : bcsS a (l.take (k + 1)) = bcS (bcsS a (l.take k)) x := by
  rw [take_next l k x h]
  unfold bcsS
  rw [List.foldl_append]
  rfl
theorem itc_neq (x y : It) (w : World) : (binOp .neq 39 x.val y.val).run Try.prog w = .ok (.bool (!itEq x y)) w := by
  cases x with | mk a b c d =>
  cases y with | mk e f g h =>
  unfold It.val itEq
  simp only []
  by_cases h1 : a = e
  · by_cases h2 : b = f
    · by_cases h3 : c = g
      · by_cases h4 : d = h
        · simp [go_sem, h1, h2, h3, h4]
        · simp [go_sem, h1, h2, h3, h4]
      · have h3' : ¬ bs c = bs g := fun e => h3 (bs_inj e)
        simp [go_sem, h1, h2, h3, h3']
    · simp [go_sem, h1, h2]
  · simp [go_sem, h1]
theorem Both8.lone {w0 w : World} {pc pr : Nat} {a : Ag} (h : Both8 w0 w pc pr a) : One8 w0 w (fun _ => False) pc a := by
  obtain ⟨⟨F, G, h1, h2, h3, h4, h5⟩, hB⟩ := h
  exact ⟨⟨F, h1, h4, fun _ _ h => h⟩, fun _ h => h.elim, hB⟩
theorem drop_ok {a : Ag} (h : a.Ok) (j : Nat) : (Ag.mk (a.l.drop j) a.n).Ok :=
  ⟨h.order.sublist (List.drop_sublist j a.l), h.once.sublist (List.drop_sublist j a.l), fun x hx => h.given x (List.mem_of_mem_drop hx), h.n, by have := h.room; simp; omega⟩
theorem due_drop {l : List It} {j : Nat} {n now : Int} (h : dueB ⟨l.drop j, n⟩ now = true) : ∃ x, l[j]? = some x ∧ x.at_ ≤ now ∧ takV ⟨l.drop j, n⟩ now = x ∧ takS ⟨l.drop j, n⟩ now = ⟨l.drop (j + 1), n⟩ := by
  have h' := h
  unfold dueB at h
  cases hd : l.drop j with
  | nil => rw [hd] at h; cases h
  | cons x r =>
    rw [hd] at h
    simp at h
    have hj : l[j]? = some x := by
      have := congrArg (fun z => z[0]?) hd
      simpa using this
    have hr : l.drop (j + 1) = r := by
      have := congrArg List.tail hd
      simpa using this
    refine ⟨x, hj, h, ?_, ?_⟩
    · unfold takV nextV
      rw [← hd, h', if_pos rfl]
      simp [hd]
    · unfold takS
      rw [← hd, h', if_pos rfl]
      simp [hd, hr]
theorem due_not {l : List It} {j : Nat} {n now : Int} (ho : l.Pairwise fun x y => ahead x y = true) (h : dueB ⟨l.drop j, n⟩ now = false) : takS ⟨l.drop j, n⟩ now = ⟨l.drop j, n⟩ ∧ ∀ i x, l[j + i]? = some x → now < x.at_ := by
  refine ⟨by unfold takS; rw [h]; rfl, fun i x hx => ?_⟩
  have ho' := ho.sublist (List.drop_sublist j l)
  unfold dueB at h
  cases hd : l.drop j with
  | nil =>
    have : (l.drop j)[i]? = some x := by rw [List.getElem?_drop]; exact hx
    rw [hd] at this
    cases this
  | cons y r =>
    rw [hd] at h ho'
    simp at h
    have hxi : (y :: r)[i]? = some x := by rw [← hd, List.getElem?_drop]; exact hx
    cases i with
    | zero => simp at hxi; rw [← hxi]; exact h
    | succ i =>
      have hm : x ∈ r := List.mem_of_getElem? (by simpa using hxi)
      have := (List.pairwise_cons.1 ho').1 x hm
      rw [ahead_iff] at this
      omega
end Go.Proofs.Ytcnfidfpgohpoaa.W
