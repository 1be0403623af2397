/- The code's agenda, walked: New, Put, Cancel, Move. -/
import Derived.Test.YtcnfidfpgohpoaaAgY
namespace Go.Proofs.Ytcnfidfpgohpoaa.W
open Go.RowKit Go.Sort
set_option linter.unusedVariables false
set_option linter.unusedSimpArgs false
/-- The code's agenda at block p; all its blocks are F's. -/
def AgIn (F : Nat → Prop) (w : World) (p : Nat) (a : Ag) : Prop :=
  F p ∧ (∀ k, F k → k < w.heap.size) ∧ ∃ hb v m h, w.heap[p]? = some (.cells #[.pointer (some ⟨hb, 0, none⟩)] 60 (0, 0)) ∧ Hv w hb v m h a.n ∧ F hb ∧ F m ∧ (∀ g, v.ownBlock = some g → F g ∧ g ≠ p) ∧ p ≠ hb ∧ p ≠ m ∧ h.Perm a.l ∧ HeapF h
theorem AgIn.kept {F G : Nat → Prop} {w w' : World} {p : Nat} {a : Ag} (h : AgIn F w p a) (t : Touch G w w') (hd : ∀ k, F k → ¬ G k) : AgIn F w' p a := by
  obtain ⟨h1, h2, hb, v, m, l, h3, h4, h5, h6, h7, h8⟩ := h
  refine ⟨h1, fun k hk => Nat.lt_of_lt_of_le (h2 k hk) t.size, hb, v, m, l, (t.block p (h2 p h1) (hd p h1)).trans h3, h4.kept fun k hk => ?_, h5, h6, h7, h8⟩
  have hF : F k := by
    rcases hk with rfl | rfl | hk
    · exact h5
    · exact h6
    · exact (h7 k hk).1
  exact t.block k (h2 k hF) (hd k hF)
theorem AgIn.below {F : Nat → Prop} {w w' : World} {p : Nat} {a : Ag} (h : AgIn F w p a) (t : Below w.heap.size w w') : AgIn F w' p a :=
  h.kept (Touch.of_below (fun _ => False) t) (fun _ _ e => e)
theorem AgIn.mono {F G : Nat → Prop} {w : World} {p : Nat} {a : Ag} (h : AgIn F w p a) (hFG : ∀ k, F k → G k) (hG : ∀ k, G k → k < w.heap.size) : AgIn G w p a := by
  obtain ⟨h1, h2, hb, v, m, l, h3, h4, h5, h6, h7, h8⟩ := h
  exact ⟨hFG p h1, hG, hb, v, m, l, h3, h4, hFG hb h5, hFG m h6, fun g hg => ⟨hFG g (h7 g hg).1, (h7 g hg).2⟩, h8⟩
theorem AgIn.lt {F : Nat → Prop} {w : World} {p : Nat} {a : Ag} (h : AgIn F w p a) : ∀ k, F k → k < w.heap.size := h.2.1
/-- The heap of an agenda behind a call that touched it alone. -/
theorem ag_step {F : Nat → Prop} {w w' : World} {p hb m : Nat} {v v' : Value} {h' : List It} {a' : Ag} (h1 : F p) (h2 : ∀ k, F k → k < w.heap.size) (h3 : w.heap[p]? = some (.cells #[.pointer (some ⟨hb, 0, none⟩)] 60 (0, 0))) (h5 : F hb) (h6 : F m) (h7 : ∀ g, v.ownBlock = some g → F g ∧ g ≠ p) (h8 : p ≠ hb) (h9 : p ≠ m)
    (hv : Hv w' hb v' m h' a'.n) (hg : ∀ g, v'.ownBlock = some g → v.ownBlock = some g ∨ w.heap.size ≤ g) (hp : h'.Perm a'.l) (hH : HeapF h') (ht : Touch (fun k => k = hb ∨ Sw m v k) w w') : AgIn (Gr F w w') w' p a' ∧ Touch F w w' := by
  have htF : Touch F w w' := ht.mono fun k hk => by
    rcases hk with rfl | rfl | hk
    · exact h5
    · exact h6
    · exact (h7 k hk).1
  have hpb : w'.heap[p]? = w.heap[p]? := ht.block p (h2 p h1) (fun e => by
    rcases e with e | e | e
    · exact h8 e
    · exact h9 e
    · exact (h7 p e).2 rfl)
  refine ⟨⟨.inl h1, gr_lt h2 ht.size, hb, v', m, h', hpb.trans h3, hv, .inl h5, .inl h6, fun g e => ?_, h8, h9, hp, hH⟩, htF⟩
  rcases hg g e with e' | e'
  · exact ⟨.inl (h7 g e').1, (h7 g e').2⟩
  · exact ⟨.inr ⟨e', hv.lt.2.2 g e⟩, fun e'' => by have := h2 p h1; omega⟩
theorem one_cell {w : World} {p : Nat} {a : Value} {t : TypeId} (h : w.heap[p]? = some (.cells #[a] t (0, 0))) : w.cell? ⟨p, 0, none⟩ = some a ∧ w.frozen? ⟨p, 0, none⟩ = false := by
  refine ⟨?_, ?_⟩ <;> simp [World.cell?, World.frozen?, h]
set_option maxHeartbeats 1600000 in
theorem gheap_any {p hb : Nat} (w : World) (h : w.cell? ⟨p, 0, none⟩ = some (.pointer (some ⟨hb, 0, none⟩))) :
    Calls Try.prog 29 #[.pointer (some ⟨p, 0, none⟩)] w fun e w' => e = .returned (.pointer (some ⟨hb, 0, none⟩)) ∧ w = w' := by
  go_enter Try.func29, Try.ntmps29
  go_wp2
  go_ret
  exact ⟨rfl, rfl⟩
set_option maxHeartbeats 1600000 in
theorem gnewheap_any (w : World) : Calls Try.prog 22 #[] w fun e w' => ∃ hb m, e = .returned (.pointer (some ⟨hb, 0, none⟩)) ∧ Hv w' hb (.slice none 0 0) m [] 0 ∧ w.heap.size ≤ hb ∧ w.heap.size ≤ m ∧ Below w.heap.size w w' := by
  have hmm := @run_makeMap Try.prog
  go_enter Try.func22, Try.ntmps22
  go_wp2
  go_ret
  have hb1 := heap_alloc_new (w.alloc (.map #[] 0)) (.cells #[.slice none 0 0, .map (some w.heap.size), .int .i64 0] 65)
  rw [World.size_alloc] at hb1
  have hm1 := (World.ownsMap_made (H := Nat) w Try.prog 3 (plainElem Try.prog 3)).alloc (.cells #[.slice none 0 0, .map (some w.heap.size), .int .i64 0] 65)
  exact ⟨w.heap.size + 1, w.heap.size, rfl, ⟨hb1, World.ownsRow_nil _ _ _ _, ⟨_, hm1, pl_nil⟩, by omega, fun g hg => (by cases hg), Nat.zero_le _, by simp, List.Pairwise.nil⟩, by omega, Nat.le_refl _, ((Below.refl _ _).alloc (Nat.le_refl _) _).alloc (by simp) _⟩
set_option maxHeartbeats 1600000 in
theorem gnew_any (w : World) :
    Calls Try.prog 10 #[] w fun e w' => ∃ p, e = .returned (.pointer (some ⟨p, 0, none⟩)) ∧ AgIn (fun k => w.heap.size ≤ k ∧ k < w'.heap.size) w' p agNew ∧ Below w.heap.size w w' := by
  have c := gnewheap_any w
  go_enter Try.func10, Try.ntmps10
  go_wp2_with fail
  (with_reducible refine c.mono ?_)
  rintro e w1 ⟨hb, m, rfl, hV, hb0, hm0, hB⟩
  have E := Lib.hid (And.intro hV (And.intro hb0 (And.intro hm0 hB)))
  clear hV hb0 hm0 hB c
  go_wp2_with fail
  go_ret
  obtain ⟨hV, hb0, hm0, hB⟩ := E.out
  obtain ⟨l1, l2, l3⟩ := hV.lt
  have hz := hB.size
  refine ⟨w1.heap.size, rfl, ⟨⟨hz, by simp⟩, fun k hk => hk.2, hb, .slice none 0 0, m, [], heap_alloc_new _ _, hV.below ((Below.refl _ _).alloc (Nat.le_refl _) _), ⟨hb0, by simp; omega⟩, ⟨hm0, by simp; omega⟩, fun g hg => (by cases hg), by omega, by omega, List.Perm.refl _, heap_nil⟩, hB.alloc hz _⟩
theorem perm_set : ∀ {h : List It} {k : Nat} {x : It}, h[k]? = some x → ∀ y : It, ∃ r, (x :: r).Perm h ∧ (h.set k y).Perm (y :: r)
  | [], k, x, hk, y => by simp at hk
  | a :: h, 0, x, hk, y => by
    simp at hk
    subst hk
    exact ⟨h, List.Perm.refl _, List.Perm.refl _⟩
  | a :: h, k + 1, x, hk, y => by
    obtain ⟨r, h1, h2⟩ := perm_set (h := h) (k := k) (x := x) (by simpa using hk) y
    refine ⟨a :: r, (List.Perm.swap a x r).trans (h1.cons a), ?_⟩
    rw [List.set_cons_succ]
    exact (h2.cons a).trans (List.Perm.swap y a r)
theorem find_uniq {a : Ag} (ok : a.Ok) {x : It} (hx : x ∈ a.l) : findL x.ticket a.l = some x := by
  obtain ⟨y, h1, h2, h3⟩ := find_has (t := x.ticket) (l := a.l) (by unfold hasL; rw [List.any_eq_true]; exact ⟨x, hx, by simp⟩)
  rw [h1]
  obtain ⟨i, hi, e1⟩ := List.getElem_of_mem h2
  obtain ⟨j, hj, e2⟩ := List.getElem_of_mem hx
  have u : Uniq a.l := ok.once
  have := u.at_ (i := i) (j := j) (x := y) (y := x) (by rw [List.getElem?_eq_getElem hi, e1]) (by rw [List.getElem?_eq_getElem hj, e2]) h3
  subst this
  rw [← e1, e2]
/-- Looking for a ticket's place. -/
theorem place_look {w : World} {hb m : Nat} {v : Value} {h : List It} {n : Int} (x : Hv w hb v m h n) (t : Int) (t0 : -9223372036854775808 ≤ t) (t1 : t ≤ 9223372036854775807) :
    ∃ i : Int, (Instr.lookup 63 (.map (some m)) (.int .i64 t) true).run Try.prog w = .ok (.tuple #[.int .i64 i, .bool (hasL t h)]) w ∧ ∀ (k : Nat) (y : It), h[k]? = some y → y.ticket = t → i = k := by
  obtain ⟨D, h1, h2⟩ := x.map
  obtain ⟨u, ps, hrun, hv⟩ := h1.look_ok int_key Try.underlying63 (z := .int .i64 0) (by kernel_rfl) (plainElem_int Try.underlying3 (by decide)) (key_at t t0 t1)
  obtain ⟨i, rfl, hi, _⟩ := plainElem_int_inv Try.underlying3 hv
  rw [h2.has] at hrun
  refine ⟨i, hrun, fun k y hk e => ?_⟩
  have := h2.at_ k y hk (.lit (.int .i64 0))
  rw [e] at this
  rw [this] at hi
  simp at hi
  exact hi.1.symm
set_option maxRecDepth 100000 in
set_option maxHeartbeats 3200000 in
theorem gput_any {F : Nat → Prop} {p : Nat} {a : Ag} (ok : a.Ok) (n1 : a.n ≤ 1000000) (at_ kind : Int) (data : List UInt8) (t0 : -9223372036854775808 ≤ at_) (t1 : at_ ≤ 9223372036854775807) (k0 : -9223372036854775808 ≤ kind) (k1 : kind ≤ 9223372036854775807) (hd : data.length ≤ maxLen) (w : World) (hc : AgIn F w p a) :
    Calls Try.prog 18 #[.pointer (some ⟨p, 0, none⟩), .int .i64 at_, .int .i64 kind, .string (bs data)] w fun e w' => e = .returned (.tuple #[.int .i64 (putN a at_ kind data), .int .i64 (putE a at_ kind data)]) ∧ AgIn (Gr F w w') w' p (putS a at_ kind data) ∧ Touch F w w' := by
  have HC := Lib.hid hc
  obtain ⟨h1, h2, hb, v, m, h, h3, h4, h5, h6, h7, h8, h9, hp, hH⟩ := hc
  obtain ⟨q0, q1⟩ := one_cell h3
  have cg := gheap_any w q0
  have hlen := hp.length_eq
  have hl := len_row h4.row
  obtain ⟨b0, _, _, _, _, _⟩ := three_cells h4.blk
  have hroom := ok.room
  have hn0 := ok.n
  have hsz : ((bs data).size : Int) = data.length := by rw [bs_size]
  unfold putN putS putE
  by_cases e1 : at_ < 0 ∨ kind < 0 ∨ 255 < kind ∨ 2000 < data.length
  · rw [if_pos e1]
    have fin : AgIn (Gr F w w) w p a ∧ Touch F w w := ⟨HC.out.mono (fun k hk => .inl hk) (gr_lt h2 (Nat.le_refl _)), Touch.refl _ _⟩
    have FI := Lib.hid fin
    clear fin h1 h2 h3 h4 h5 h6 h7 h8 h9 hp hH
    by_cases c1 : at_ < 0
    · go_enter Try.func18, Try.ntmps18
      go_wp2_with fail
      (with_reducible refine cg.mono ?_)
      rintro e w1 ⟨rfl, rfl⟩
      go_wp2_with fail
      go_ret2
      exact ⟨rfl, FI.out⟩
    · by_cases c2 : kind < 0
      · go_enter Try.func18, Try.ntmps18
        go_wp2_with fail
        (with_reducible refine cg.mono ?_)
        rintro e w1 ⟨rfl, rfl⟩
        go_wp2_with fail
        go_ret2
        exact ⟨rfl, FI.out⟩
      · by_cases c3 : 255 < kind
        · go_enter Try.func18, Try.ntmps18
          go_wp2_with fail
          (with_reducible refine cg.mono ?_)
          rintro e w1 ⟨rfl, rfl⟩
          go_wp2_with fail
          go_ret2
          exact ⟨rfl, FI.out⟩
        · have c4 : (2000 : Int) < ((bs data).size : Int) := by omega
          clear hsz
          go_enter Try.func18, Try.ntmps18
          go_wp2_with fail
          (with_reducible refine cg.mono ?_)
          rintro e w1 ⟨rfl, rfl⟩
          go_wp2_with fail
          go_ret2
          exact ⟨rfl, FI.out⟩
  · rw [if_neg e1]
    have c1 : ¬ at_ < 0 := by omega
    have c2 : ¬ kind < 0 := by omega
    have c3 : ¬ 255 < kind := by omega
    have c4 : ¬ (2000 : Int) < ((bs data).size : Int) := by omega
    clear hsz
    by_cases e2 : 1000 ≤ a.l.length
    · rw [if_pos e2]
      have c5 : (1000 : Int) ≤ (h.length : Int) := by omega
      have fin : AgIn (Gr F w w) w p a ∧ Touch F w w := ⟨HC.out.mono (fun k hk => .inl hk) (gr_lt h2 (Nat.le_refl _)), Touch.refl _ _⟩
      have FI := Lib.hid fin
      clear fin h1 h2 h3 h4 h5 h6 h7 h8 h9 hp hH
      go_enter Try.func18, Try.ntmps18
      go_wp2_with fail
      (with_reducible refine cg.mono ?_)
      rintro e w1 ⟨rfl, rfl⟩
      go_wp2_with fail
      go_ret2
      exact ⟨rfl, FI.out⟩
    · rw [if_neg e2]
      have c5 : ¬ (1000 : Int) ≤ (h.length : Int) := by omega
      have hp3 : (w.setCell ⟨p, 0, none⟩ (.pointer (some ⟨hb, 0, none⟩))).heap[p]? = some (.cells #[.pointer (some ⟨hb, 0, none⟩)] 60 (0, 0)) := block_set 0 _ h3
      have hv3 : Hv (w.setCell ⟨p, 0, none⟩ (.pointer (some ⟨hb, 0, none⟩))) hb v m h a.n := h4.kept (fun k hk => block_far _ _ (fun e => by
        rcases hk with e' | e' | e'
        · exact h8 (by rw [← e, e'])
        · exact h9 (by rw [← e, e'])
        · exact (h7 k e').2 e))
      have ht3 : Touch (fun k => k = p) w (w.setCell ⟨p, 0, none⟩ (.pointer (some ⟨hb, 0, none⟩))) := Touch.setCell (Touch.refl (fun k => k = p) w) (p := ⟨p, 0, none⟩) (.inl rfl) _
      have cp := gpush_any at_ kind data _ hv3 hH (by omega) hn0 (by omega) (fun y hy => (ok.given y (hp.mem_iff.1 hy)).2.1)
      have P := Lib.hid (And.intro h1 (And.intro h2 (And.intro h5 (And.intro h6 (And.intro h7 (And.intro h8 (And.intro h9 (And.intro hp (And.intro hp3 ht3)))))))))
      have hs3 : (w.setCell ⟨p, 0, none⟩ (.pointer (some ⟨hb, 0, none⟩))).heap.size = w.heap.size := set_size _ _ _
      clear h1 h2 h3 h4 h5 h6 h7 h8 h9 hp hH hp3 hv3 ht3
      go_enter Try.func18, Try.ntmps18
      go_wp2_with fail
      (with_reducible refine cg.mono ?_)
      rintro e w1 ⟨rfl, rfl⟩
      go_wp2_with fail
      (with_reducible refine cp.mono ?_)
      rintro e w2 ⟨rfl, v', h', hV, hown, hperm, hH', hT⟩
      have E := Lib.hid (And.intro hV (And.intro hown (And.intro hperm (And.intro hH' hT))))
      clear hV hown hperm hH' hT cp
      go_wp2_with fail
      go_ret2
      obtain ⟨hV, hown, hperm, hH', hT⟩ := E.out
      obtain ⟨h1, h2, h5, h6, h7, h8, h9, hp, hp3, ht3⟩ := P.out
      have hpe : h'.Perm (layL ⟨at_, kind, data, a.n + 1⟩ a.l) := hperm.trans ((hp.cons _).trans (perm_lay _ _).symm)
      obtain ⟨r1, r2⟩ := ag_step (a' := ⟨layL ⟨at_, kind, data, a.n + 1⟩ a.l, a.n + 1⟩) h1 (fun k hk => by rw [hs3]; exact h2 k hk) hp3 h5 h6 h7 h8 h9 hV hown hpe hH' hT
      refine ⟨by simp, ?_, (ht3.mono (fun k hk => by rw [hk]; exact h1)).same r2⟩
      (try rw [if_pos rfl])
      exact r1.mono (fun k hk => by
        rcases hk with hk | hk
        · exact .inl hk
        · exact .inr (by rw [hs3] at hk; exact hk)) (gr_lt h2 ((ht3.mono (fun k hk => by rw [hk]; exact h1)).same r2 : Touch F w w2).size)
set_option maxRecDepth 100000 in
set_option maxHeartbeats 1600000 in
theorem gcan_any {F : Nat → Prop} {p : Nat} {a : Ag} (ok : a.Ok) (n1 : a.n ≤ 1000000) (t : Int) (t0 : -9223372036854775808 ≤ t) (t1 : t ≤ 9223372036854775807) (w : World) (hc : AgIn F w p a) :
    Calls Try.prog 19 #[.pointer (some ⟨p, 0, none⟩), .int .i64 t] w fun e w' => e = .returned (.int .i64 (canE a t)) ∧ AgIn (Gr F w w') w' p (canS a t) ∧ Touch F w w' := by
  have HC := Lib.hid hc
  obtain ⟨h1, h2, hb, v, m, h, h3, h4, h5, h6, h7, h8, h9, hp, hH⟩ := hc
  obtain ⟨q0, q1⟩ := one_cell h3
  have cg := gheap_any w q0
  obtain ⟨_, b1, _, _, _, _⟩ := three_cells h4.blk
  obtain ⟨i, hrun, hi⟩ := place_look h4 t t0 t1
  rw [has_perm hp] at hrun
  unfold canE canS
  cases hh : hasL t a.l
  · rw [hh] at hrun
    have fin : AgIn (Gr F w w) w p ⟨offL t a.l, a.n⟩ ∧ Touch F w w := by
      rw [off_none hh]
      exact ⟨HC.out.mono (fun k hk => .inl hk) (gr_lt h2 (Nat.le_refl _)), Touch.refl _ _⟩
    have FI := Lib.hid fin
    clear fin h1 h2 h3 h4 h5 h6 h7 h8 h9 hp hH
    go_enter Try.func19, Try.ntmps19
    go_wp2_with fail
    (with_reducible refine cg.mono ?_)
    rintro e w1 ⟨rfl, rfl⟩
    go_wp2_with fail
    go_ret
    exact ⟨rfl, FI.out⟩
  · rw [hh] at hrun
    obtain ⟨k, x, hk, ht⟩ := has_at (h := h) (t := t) (by rw [has_perm hp]; exact hh)
    obtain rfl := hi k x hk ht
    have cr := gremove_any w h4 hk hH
    unfold It.valE at cr
    have P := Lib.hid (And.intro h1 (And.intro h2 (And.intro h3 (And.intro h5 (And.intro h6 (And.intro h7 (And.intro h8 (And.intro h9 hp))))))))
    have HK := Lib.hid hk
    clear h1 h2 h3 h4 h5 h6 h7 h8 h9 hp hH hk hi
    go_enter Try.func19, Try.ntmps19
    go_wp2_with fail
    (with_reducible refine cg.mono ?_)
    rintro e w1 ⟨rfl, rfl⟩
    go_wp2_with fail
    (with_reducible refine cr.mono ?_)
    rintro e w2 ⟨rfl, v', h', hV, hown, hperm, hH', hT⟩
    have E := Lib.hid (And.intro hV (And.intro hown (And.intro hperm (And.intro hH' hT))))
    clear hV hown hperm hH' hT cr
    go_wp2_with fail
    go_ret
    obtain ⟨hV, hown, hperm, hH', hT⟩ := E.out
    obtain ⟨h1, h2, h3, h5, h6, h7, h8, h9, hp⟩ := P.out
    have hx : x ∈ a.l := hp.mem_iff.1 (List.mem_of_getElem? HK.out)
    have hpe := perm_off_of ok hx (hperm.trans hp)
    rw [ht] at hpe
    exact ⟨rfl, ag_step (a' := ⟨offL t a.l, a.n⟩) h1 h2 h3 h5 h6 h7 h8 h9 hV (fun g hg => .inl (by rw [← hown]; exact hg)) hpe hH' hT⟩
set_option maxRecDepth 100000 in
set_option maxHeartbeats 1600000 in
theorem gmov_any {F : Nat → Prop} {p : Nat} {a : Ag} (ok : a.Ok) (n1 : a.n ≤ 1000000) (t at_ : Int) (t0 : -9223372036854775808 ≤ t) (t1 : t ≤ 9223372036854775807) (k0 : -9223372036854775808 ≤ at_) (k1 : at_ ≤ 9223372036854775807) (w : World) (hc : AgIn F w p a) :
    Calls Try.prog 20 #[.pointer (some ⟨p, 0, none⟩), .int .i64 t, .int .i64 at_] w fun e w' => e = .returned (.int .i64 (movE a t at_)) ∧ AgIn (Gr F w w') w' p (movS a t at_) ∧ Touch F w w' := by
  have HC := Lib.hid hc
  obtain ⟨h1, h2, hb, v, m, h, h3, h4, h5, h6, h7, h8, h9, hp, hH⟩ := hc
  obtain ⟨q0, q1⟩ := one_cell h3
  have cg := gheap_any w q0
  obtain ⟨_, b1, _, _, _, _⟩ := three_cells h4.blk
  obtain ⟨i, hrun, hi⟩ := place_look h4 t t0 t1
  rw [has_perm hp] at hrun
  have fin : AgIn (Gr F w w) w p a ∧ Touch F w w := ⟨HC.out.mono (fun k hk => .inl hk) (gr_lt h2 (Nat.le_refl _)), Touch.refl _ _⟩
  have FI := Lib.hid fin
  clear fin
  unfold movE movS
  cases hh : hasL t a.l
  · rw [hh] at hrun
    have hf : findL t a.l = none := by
      cases hf : findL t a.l with
      | none => rfl
      | some x =>
        have hx := List.mem_of_find?_eq_some hf
        have ht : x.ticket = t := by have := List.find?_some hf; simpa using this
        have : hasL t a.l = true := by unfold hasL; rw [List.any_eq_true]; exact ⟨x, hx, by simp [ht]⟩
        rw [hh] at this
        cases this
    rw [hf]
    clear h1 h2 h3 h4 h5 h6 h7 h8 h9 hp hH hf
    go_enter Try.func20, Try.ntmps20
    go_wp2_with fail
    (with_reducible refine cg.mono ?_)
    rintro e w1 ⟨rfl, rfl⟩
    go_wp2_with fail
    go_ret
    exact ⟨rfl, by simpa using FI.out⟩
  · rw [hh] at hrun
    by_cases ha : at_ < 0
    · clear h1 h2 h3 h4 h5 h6 h7 h8 h9 hp hH
      go_enter Try.func20, Try.ntmps20
      go_wp2_with fail
      (with_reducible refine cg.mono ?_)
      rintro e w1 ⟨rfl, rfl⟩
      go_wp2_with fail
      go_ret
      exact ⟨by simp [ha], by first | exact FI.out | (rw [if_pos ha]; exact FI.out)⟩
    · rw [if_neg ha, if_neg ha]
      obtain ⟨k, x, hk, ht⟩ := has_at (h := h) (t := t) (by rw [has_perm hp]; exact hh)
      obtain rfl := hi k x hk ht
      have cr := gmove_any at_ w h4 hk hH
      have hx : x ∈ a.l := hp.mem_iff.1 (List.mem_of_getElem? hk)
      have hf := find_uniq ok hx
      rw [ht] at hf
      rw [hf]
      simp only []
      have HX := Lib.hid hx
      clear hf hx
      have P := Lib.hid (And.intro h1 (And.intro h2 (And.intro h3 (And.intro h5 (And.intro h6 (And.intro h7 (And.intro h8 (And.intro h9 hp))))))))
      have HK := Lib.hid hk
      clear h1 h2 h3 h4 h5 h6 h7 h8 h9 hp hH hk hi FI
      go_enter Try.func20, Try.ntmps20
      go_wp2_with fail
      (with_reducible refine cg.mono ?_)
      rintro e w1 ⟨rfl, rfl⟩
      go_wp2_with fail
      (with_reducible refine cr.mono ?_)
      rintro e w2 ⟨rfl, h', hV, hperm, hH', hT⟩
      have E := Lib.hid (And.intro hV (And.intro hperm (And.intro hH' hT)))
      clear hV hperm hH' hT cr
      go_wp2_with fail
      go_ret
      obtain ⟨hV, hperm, hH', hT⟩ := E.out
      obtain ⟨h1, h2, h3, h5, h6, h7, h8, h9, hp⟩ := P.out
      have hx := HX.out
      obtain ⟨r, hr1, hr2⟩ := perm_set HK.out ⟨at_, x.kind, x.data, x.ticket⟩
      have hro := perm_off_of ok hx (hr1.trans hp)
      rw [ht] at hro
      have hpe : h'.Perm (layL ⟨at_, x.kind, x.data, x.ticket⟩ (offL t a.l)) := hperm.trans (hr2.trans ((hro.cons _).trans (perm_lay _ _).symm))
      have fin := ag_step (a' := ⟨layL ⟨at_, x.kind, x.data, x.ticket⟩ (offL t a.l), a.n⟩) h1 h2 h3 h5 h6 h7 h8 h9 hV (fun g hg => .inl hg) hpe hH' (hT.mono (fun k hk => .inr hk))
      first | exact ⟨rfl, fin⟩ | (rw [ht] at fin; exact ⟨rfl, fin⟩)
end Go.Proofs.Ytcnfidfpgohpoaa.W
