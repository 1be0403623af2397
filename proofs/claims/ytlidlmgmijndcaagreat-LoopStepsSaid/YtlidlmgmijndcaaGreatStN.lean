/- Layer 10's own code, walked: the fields one by one. -/
import Derived.Test.YtlidlmgmijndcaaGreatStM
namespace Go.Proofs.YtlidlmgmijndcaaGreat.W
open Go.RowKit Go.Sort
set_option linter.unusedVariables false
set_option linter.unusedSimpArgs false
/-- The i-th field, as it is laid. -/
def agV (b1 b8 : Nat) : Nat → Value
  | 0 => (fldF { data := #[115, 116, 101, 112] } 4562254508917369340 4621819117588971520 46 47 89 #[])
  | 1 => (fldF { data := #[119, 97, 116, 99, 104] } 4607182418800017408 4660134898793709568 48 49 89 #[])
  | 2 => (fldF { data := #[112, 97, 110, 105, 99] } 4607182418800017408 4681608360884174848 50 51 71 #[.pointer (some ⟨b1, 0, none⟩)])
  | 3 => (fldF { data := #[109, 97, 120, 114, 97, 116, 101] } 4517329193108106637 4591870180066957722 52 53 89 #[])
  | 4 => (fldF { data := #[112, 104, 105] } 0 4576918229304087675 54 55 89 #[])
  | 5 => (fldF { data := #[109, 97, 120, 100, 105, 115, 116] } 4576918229304087675 4625196817309499392 56 57 89 #[])
  | 6 => (fldF { data := #[103, 97, 116, 101] } 4607182418800017408 4636737291354636288 58 59 89 #[])
  | 7 => (fldW { data := #[109, 105, 110, 112, 111, 108, 108] } 4 17 61 62 89 #[])
  | 8 => (fldW { data := #[109, 97, 120, 112, 111, 108, 108] } 4 17 63 64 73 #[.pointer (some ⟨b8, 0, none⟩)])
  | 9 => (fldW { data := #[98, 117, 114, 115, 116] } 0 8 65 66 89 #[])
  | 10 => (fldW { data := #[109, 105, 110, 115, 97, 110, 101] } 1 10 67 68 89 #[])
  | _ => (fldW { data := #[109, 105, 110, 108, 101, 102, 116] } 1 10 69 70 89 #[])
theorem rowF (b1 b8 i : Nat) (h : i < 7) : (rowV b1 b8)[i]? = some (.iface 89 (agV b1 b8 i)) := by
  match i, h with
  | 0, _ | 1, _ | 2, _ | 3, _ | 4, _ | 5, _ | 6, _ => rfl
theorem rowW (b1 b8 i : Nat) (h : 7 ≤ i) (h' : i < 12) : (rowV b1 b8)[i]? = some (.iface 95 (agV b1 b8 i)) := by
  match i, h, h' with
  | 7, _, _ | 8, _, _ | 9, _, _ | 10, _, _ | 11, _, _ => rfl
theorem plain_val (e : Int) : (if e ≠ 0 then e else if true = true then 0 else 100) = e := by
  by_cases h : e = 0
  · rw [if_neg (by simpa using h), if_pos rfl, h]
  · rw [if_pos h]
theorem own_field (c : Cf) (k : Nat) (h3 : k ≠ 3) (h9 : k ≠ 9) : fieldE c k = ownE c k := by
  unfold fieldE
  by_cases h : ownE c k = 0
  · rw [if_neg (by simpa using h), if_neg (fun x => h3 x.1), if_neg (fun x => h9 x.1), h]
  · rw [if_pos h]
theorem panic_val (c : Cf) : (if wiE c.panic 4607182418800017408 4681608360884174848 ≠ 0 then wiE c.panic 4607182418800017408 4681608360884174848 else if hangsF c = true then 0 else 100) = fieldE c 3 := by
  unfold fieldE hangsF
  rw [own_at3, own_at1]
  by_cases h : wiE c.panic 4607182418800017408 4681608360884174848 = 0
  · obtain ⟨p1, p2, p3⟩ := own_num h
    rw [h]
    by_cases hs : wiE c.step 4562254508917369340 4621819117588971520 = 0
    · obtain ⟨s1, s2, s3⟩ := own_num hs
      rw [hs]
      rcases Int.lt_trichotomy (V c.panic) (V c.step) with hv | hv | hv
      · rw [order_lt p1 s1 hv]
        simp [show V c.panic ≤ V c.step by omega]
      · rw [order_eq p1 s1 hv]
        simp [show V c.panic ≤ V c.step by omega]
      · rw [order_gt p1 s1 hv]
        simp [show ¬ V c.panic ≤ V c.step by omega]
    · simp [hs]
  · rw [if_pos h, if_pos h]
theorem max_val (c : Cf) : (if whE c.maxpoll 4 17 ≠ 0 then whE c.maxpoll 4 17 else if hangsW c = true then 0 else 100) = fieldE c 9 := by
  unfold fieldE hangsW
  rw [own_at9, own_at8]
  have e9 : whE c.maxpoll 4 17 = if c.maxpoll < 4 ∨ 17 < c.maxpoll then 100 else 0 := rfl
  have e8 : whE c.minpoll 4 17 = if c.minpoll < 4 ∨ 17 < c.minpoll then 100 else 0 := rfl
  rw [← e9, ← e8]
  generalize whE c.maxpoll 4 17 = x
  generalize whE c.minpoll 4 17 = y
  by_cases h : x = 0
  · subst h
    by_cases hy : y = 0
    · subst hy
      by_cases hm : c.maxpoll < c.minpoll
      · simp [hm, show ¬ c.minpoll ≤ c.maxpoll by omega]
      · simp [hm, show c.minpoll ≤ c.maxpoll by omega]
    · simp [hy]
  · rw [if_pos h, if_pos h]
set_option maxRecDepth 100000 in
theorem gfault_rowF (c : Cf) (t : c.Typed) (b1 b8 : Nat) (i : Nat) (hi : i < 7) (w : World) (h1 : w.heap[b1]? = some (.cells stepC 89 (0, 0))) (h8 : w.heap[b8]? = some (.cells minC 95 (0, 0))) :
    Calls Tryz.prog 129 #[agV b1 b8 i, c.val] w fun e w' => e = .returned (.int .i64 (fieldE c (i + 1))) ∧ Below w.heap.size w w' := by
  match i, hi with
  | 0, _ =>
    have y := gfaultF { data := #[115, 116, 101, 112] } 4562254508917369340 4621819117588971520 46 47 89 #[] c c.step (by decide) (by decide) t.step Tryz.call46 (gof1 c) Tryz.call89 true w (fun w1 _ => gfits_any c w1)
    rw [plain_val, show wiE c.step 4562254508917369340 4621819117588971520 = ownE c 1 from (own_at1 c).symm, ← own_field c 1 (by decide) (by decide)] at y
    exact y
  | 1, _ =>
    have y := gfaultF { data := #[119, 97, 116, 99, 104] } 4607182418800017408 4660134898793709568 48 49 89 #[] c c.watch (by decide) (by decide) t.watch Tryz.call48 (gof2 c) Tryz.call89 true w (fun w1 _ => gfits_any c w1)
    rw [plain_val, show wiE c.watch 4607182418800017408 4660134898793709568 = ownE c 2 from (own_at2 c).symm, ← own_field c 2 (by decide) (by decide)] at y
    exact y
  | 2, _ =>
    have y := gfaultF { data := #[112, 97, 110, 105, 99] } 4607182418800017408 4681608360884174848 50 51 71 #[.pointer (some ⟨b1, 0, none⟩)] c c.panic (by decide) (by decide) t.panic Tryz.call50 (gof3 c) Tryz.call71 (hangsF c) w (fun w1 hb => ghangsF c t b1 w1 ((hb.block _ (Array.getElem?_eq_some_iff.1 h1).1).trans h1))
    rw [panic_val] at y
    exact y
  | 3, _ =>
    have y := gfaultF { data := #[109, 97, 120, 114, 97, 116, 101] } 4517329193108106637 4591870180066957722 52 53 89 #[] c c.maxrate (by decide) (by decide) t.maxrate Tryz.call52 (gof4 c) Tryz.call89 true w (fun w1 _ => gfits_any c w1)
    rw [plain_val, show wiE c.maxrate 4517329193108106637 4591870180066957722 = ownE c 4 from (own_at4 c).symm, ← own_field c 4 (by decide) (by decide)] at y
    exact y
  | 4, _ =>
    have y := gfaultF { data := #[112, 104, 105] } 0 4576918229304087675 54 55 89 #[] c c.phi (by decide) (by decide) t.phi Tryz.call54 (gof5 c) Tryz.call89 true w (fun w1 _ => gfits_any c w1)
    rw [plain_val, show wiE c.phi 0 4576918229304087675 = ownE c 5 from (own_at5 c).symm, ← own_field c 5 (by decide) (by decide)] at y
    exact y
  | 5, _ =>
    have y := gfaultF { data := #[109, 97, 120, 100, 105, 115, 116] } 4576918229304087675 4625196817309499392 56 57 89 #[] c c.maxdist (by decide) (by decide) t.maxdist Tryz.call56 (gof6 c) Tryz.call89 true w (fun w1 _ => gfits_any c w1)
    rw [plain_val, show wiE c.maxdist 4576918229304087675 4625196817309499392 = ownE c 6 from (own_at6 c).symm, ← own_field c 6 (by decide) (by decide)] at y
    exact y
  | 6, _ =>
    have y := gfaultF { data := #[103, 97, 116, 101] } 4607182418800017408 4636737291354636288 58 59 89 #[] c c.gate (by decide) (by decide) t.gate Tryz.call58 (gof7 c) Tryz.call89 true w (fun w1 _ => gfits_any c w1)
    rw [plain_val, show wiE c.gate 4607182418800017408 4636737291354636288 = ownE c 7 from (own_at7 c).symm, ← own_field c 7 (by decide) (by decide)] at y
    exact y
set_option maxRecDepth 100000 in
theorem gfault_rowW (c : Cf) (t : c.Typed) (b1 b8 : Nat) (i : Nat) (hl : 7 ≤ i) (hi : i < 12) (w : World) (h1 : w.heap[b1]? = some (.cells stepC 89 (0, 0))) (h8 : w.heap[b8]? = some (.cells minC 95 (0, 0))) :
    Calls Tryz.prog 132 #[agV b1 b8 i, c.val] w fun e w' => e = .returned (.int .i64 (fieldE c (i + 1))) ∧ Below w.heap.size w w' := by
  match i, hl, hi with
  | 7, _, _ =>
    have y := gfaultW { data := #[109, 105, 110, 112, 111, 108, 108] } 4 17 61 62 89 #[] c c.minpoll Tryz.call61 (gof8 c) Tryz.call89 true w (fun w1 _ => gfits_any c w1)
    rw [plain_val, show whE c.minpoll 4 17 = ownE c 8 from (own_at8 c).symm, ← own_field c 8 (by decide) (by decide)] at y
    exact y
  | 8, _, _ =>
    have y := gfaultW { data := #[109, 97, 120, 112, 111, 108, 108] } 4 17 63 64 73 #[.pointer (some ⟨b8, 0, none⟩)] c c.maxpoll Tryz.call63 (gof9 c) Tryz.call73 (hangsW c) w (fun w1 hb => ghangsW c b8 w1 ((hb.block _ (Array.getElem?_eq_some_iff.1 h8).1).trans h8))
    rw [max_val] at y
    exact y
  | 9, _, _ =>
    have y := gfaultW { data := #[98, 117, 114, 115, 116] } 0 8 65 66 89 #[] c c.burst Tryz.call65 (gof10 c) Tryz.call89 true w (fun w1 _ => gfits_any c w1)
    rw [plain_val, show whE c.burst 0 8 = ownE c 10 from (own_at10 c).symm, ← own_field c 10 (by decide) (by decide)] at y
    exact y
  | 10, _, _ =>
    have y := gfaultW { data := #[109, 105, 110, 115, 97, 110, 101] } 1 10 67 68 89 #[] c c.minsane Tryz.call67 (gof11 c) Tryz.call89 true w (fun w1 _ => gfits_any c w1)
    rw [plain_val, show whE c.minsane 1 10 = ownE c 11 from (own_at11 c).symm, ← own_field c 11 (by decide) (by decide)] at y
    exact y
  | 11, _, _ =>
    have y := gfaultW { data := #[109, 105, 110, 108, 101, 102, 116] } 1 10 69 70 89 #[] c c.minleft Tryz.call69 (gof12 c) Tryz.call89 true w (fun w1 _ => gfits_any c w1)
    rw [plain_val, show whE c.minleft 1 10 = ownE c 12 from (own_at12 c).symm, ← own_field c 12 (by decide) (by decide)] at y
    exact y
/-- What is set, field by field. -/
def setI (c : Cf) : Nat → Int
  | 0 => ofV c.step
  | 1 => ofV c.watch
  | 2 => ofV c.panic
  | 3 => ofV c.maxrate
  | 4 => ofV c.phi
  | 5 => ofV c.maxdist
  | 6 => ofV c.gate
  | 7 => c.minpoll
  | 8 => c.maxpoll
  | 9 => c.burst
  | 10 => c.minsane
  | _ => c.minleft
theorem told_wi {x l h : Nat} (e : wiE x l h = 0) : wiV x l h = ofV x := by unfold wiV; rw [if_pos e]
theorem told_wh {x l h : Int} (e : whE x l h = 0) : whV x l h = x := by
  unfold whE at e
  unfold whV
  by_cases z : x < l ∨ h < x
  · rw [if_pos z] at e; cases e
  · rw [if_neg z]
theorem cell_in {w w1 : World} {p j : Nat} {C : Array Value} {t : TypeId} {v : Value} (h : w.heap[p]? = some (.cells C t (0, 0))) (hv : C[j]? = some v) (hb : Below w.heap.size w w1) : w1.cell? ⟨p, j, none⟩ = some v := by
  have h' := (hb.block _ (Array.getElem?_eq_some_iff.1 h).1).trans h
  simp [World.cell?, h', hv]
theorem frozen_in {w w1 : World} {p : Nat} {C : Array Value} {t : TypeId} (h : w.heap[p]? = some (.cells C t (0, 0))) (hb : Below w.heap.size w w1) (j : Nat) : w1.frozen? ⟨p, j, none⟩ = false := bc_frozenK ((hb.block _ (Array.getElem?_eq_some_iff.1 h).1).trans h) j
set_option maxRecDepth 100000 in
theorem gtell_rowF (c : Cf) (t : c.Typed) (b1 b8 p : Nat) (C : Array Value) (T : TypeId) (i : Nat) (hi : i < 7) (w : World) (hp : w.heap[p]? = some (.cells C T (0, 0))) (hC : C.size = 12) (h0 : ownE c (i + 1) = 0) :
    Calls Tryz.prog 130 #[agV b1 b8 i, c.val, .pointer (some ⟨p, 0, none⟩)] w fun e w' => e = .returned (.tuple #[]) ∧ ∃ w1, w' = w1.setCell ⟨p, i, none⟩ (.int .i64 (setI c i)) ∧ Below w.heap.size w w1 := by
  have hcell : ∀ j, j < 12 → ∀ w1, Below w.heap.size w w1 → w1.cell? ⟨p, j, none⟩ = some (C[j]?.getD undef) := fun j hj w1 hb => cell_in hp (by rw [Array.getElem?_eq_getElem (by omega)]; rfl) hb
  have hz : ∀ w1, Below w.heap.size w w1 → ∀ j, w1.frozen? ⟨p, j, none⟩ = false := fun w1 hb j => frozen_in hp hb j
  match i, hi with
  | 0, _ =>
    have e : wiE c.step 4562254508917369340 4621819117588971520 = 0 := (own_at1 c).symm.trans h0
    have y := gtellF { data := #[115, 116, 101, 112] } 4562254508917369340 4621819117588971520 46 47 89 #[] c c.step (by decide) (by decide) t.step Tryz.call46 (gof1 c) Tryz.call47 p 0 w (fun w1 hb => gput1 p _ w1 _ (hcell 0 (by decide) w1 hb) (hz w1 hb))
    rw [told_wi e] at y
    exact y
  | 1, _ =>
    have e : wiE c.watch 4607182418800017408 4660134898793709568 = 0 := (own_at2 c).symm.trans h0
    have y := gtellF { data := #[119, 97, 116, 99, 104] } 4607182418800017408 4660134898793709568 48 49 89 #[] c c.watch (by decide) (by decide) t.watch Tryz.call48 (gof2 c) Tryz.call49 p 1 w (fun w1 hb => gput2 p _ w1 _ (hcell 1 (by decide) w1 hb) (hz w1 hb))
    rw [told_wi e] at y
    exact y
  | 2, _ =>
    have e : wiE c.panic 4607182418800017408 4681608360884174848 = 0 := (own_at3 c).symm.trans h0
    have y := gtellF { data := #[112, 97, 110, 105, 99] } 4607182418800017408 4681608360884174848 50 51 71 #[.pointer (some ⟨b1, 0, none⟩)] c c.panic (by decide) (by decide) t.panic Tryz.call50 (gof3 c) Tryz.call51 p 2 w (fun w1 hb => gput3 p _ w1 _ (hcell 2 (by decide) w1 hb) (hz w1 hb))
    rw [told_wi e] at y
    exact y
  | 3, _ =>
    have e : wiE c.maxrate 4517329193108106637 4591870180066957722 = 0 := (own_at4 c).symm.trans h0
    have y := gtellF { data := #[109, 97, 120, 114, 97, 116, 101] } 4517329193108106637 4591870180066957722 52 53 89 #[] c c.maxrate (by decide) (by decide) t.maxrate Tryz.call52 (gof4 c) Tryz.call53 p 3 w (fun w1 hb => gput4 p _ w1 _ (hcell 3 (by decide) w1 hb) (hz w1 hb))
    rw [told_wi e] at y
    exact y
  | 4, _ =>
    have e : wiE c.phi 0 4576918229304087675 = 0 := (own_at5 c).symm.trans h0
    have y := gtellF { data := #[112, 104, 105] } 0 4576918229304087675 54 55 89 #[] c c.phi (by decide) (by decide) t.phi Tryz.call54 (gof5 c) Tryz.call55 p 4 w (fun w1 hb => gput5 p _ w1 _ (hcell 4 (by decide) w1 hb) (hz w1 hb))
    rw [told_wi e] at y
    exact y
  | 5, _ =>
    have e : wiE c.maxdist 4576918229304087675 4625196817309499392 = 0 := (own_at6 c).symm.trans h0
    have y := gtellF { data := #[109, 97, 120, 100, 105, 115, 116] } 4576918229304087675 4625196817309499392 56 57 89 #[] c c.maxdist (by decide) (by decide) t.maxdist Tryz.call56 (gof6 c) Tryz.call57 p 5 w (fun w1 hb => gput6 p _ w1 _ (hcell 5 (by decide) w1 hb) (hz w1 hb))
    rw [told_wi e] at y
    exact y
  | 6, _ =>
    have e : wiE c.gate 4607182418800017408 4636737291354636288 = 0 := (own_at7 c).symm.trans h0
    have y := gtellF { data := #[103, 97, 116, 101] } 4607182418800017408 4636737291354636288 58 59 89 #[] c c.gate (by decide) (by decide) t.gate Tryz.call58 (gof7 c) Tryz.call59 p 6 w (fun w1 hb => gput7 p _ w1 _ (hcell 6 (by decide) w1 hb) (hz w1 hb))
    rw [told_wi e] at y
    exact y
set_option maxRecDepth 100000 in
theorem gtell_rowW (c : Cf) (t : c.Typed) (b1 b8 p : Nat) (C : Array Value) (T : TypeId) (i : Nat) (hl : 7 ≤ i) (hi : i < 12) (w : World) (hp : w.heap[p]? = some (.cells C T (0, 0))) (hC : C.size = 12) (h0 : ownE c (i + 1) = 0) :
    Calls Tryz.prog 133 #[agV b1 b8 i, c.val, .pointer (some ⟨p, 0, none⟩)] w fun e w' => e = .returned (.tuple #[]) ∧ ∃ w1, w' = w1.setCell ⟨p, i, none⟩ (.int .i64 (setI c i)) ∧ Below w.heap.size w w1 := by
  have hcell : ∀ j, j < 12 → ∀ w1, Below w.heap.size w w1 → w1.cell? ⟨p, j, none⟩ = some (C[j]?.getD undef) := fun j hj w1 hb => cell_in hp (by rw [Array.getElem?_eq_getElem (by omega)]; rfl) hb
  have hz : ∀ w1, Below w.heap.size w w1 → ∀ j, w1.frozen? ⟨p, j, none⟩ = false := fun w1 hb j => frozen_in hp hb j
  match i, hl, hi with
  | 7, _, _ =>
    have e : whE c.minpoll 4 17 = 0 := (own_at8 c).symm.trans h0
    have y := gtellW { data := #[109, 105, 110, 112, 111, 108, 108] } 4 17 61 62 89 #[] c c.minpoll Tryz.call61 (gof8 c) Tryz.call62 p 7 w (fun w1 hb => gput8 p _ w1 _ (hcell 7 (by decide) w1 hb) (hz w1 hb))
    rw [told_wh e] at y
    exact y
  | 8, _, _ =>
    have e : whE c.maxpoll 4 17 = 0 := (own_at9 c).symm.trans h0
    have y := gtellW { data := #[109, 97, 120, 112, 111, 108, 108] } 4 17 63 64 73 #[.pointer (some ⟨b8, 0, none⟩)] c c.maxpoll Tryz.call63 (gof9 c) Tryz.call64 p 8 w (fun w1 hb => gput9 p _ w1 _ (hcell 8 (by decide) w1 hb) (hz w1 hb))
    rw [told_wh e] at y
    exact y
  | 9, _, _ =>
    have e : whE c.burst 0 8 = 0 := (own_at10 c).symm.trans h0
    have y := gtellW { data := #[98, 117, 114, 115, 116] } 0 8 65 66 89 #[] c c.burst Tryz.call65 (gof10 c) Tryz.call66 p 9 w (fun w1 hb => gput10 p _ w1 _ (hcell 9 (by decide) w1 hb) (hz w1 hb))
    rw [told_wh e] at y
    exact y
  | 10, _, _ =>
    have e : whE c.minsane 1 10 = 0 := (own_at11 c).symm.trans h0
    have y := gtellW { data := #[109, 105, 110, 115, 97, 110, 101] } 1 10 67 68 89 #[] c c.minsane Tryz.call67 (gof11 c) Tryz.call68 p 10 w (fun w1 hb => gput11 p _ w1 _ (hcell 10 (by decide) w1 hb) (hz w1 hb))
    rw [told_wh e] at y
    exact y
  | 11, _, _ =>
    have e : whE c.minleft 1 10 = 0 := (own_at12 c).symm.trans h0
    have y := gtellW { data := #[109, 105, 110, 108, 101, 102, 116] } 1 10 69 70 89 #[] c c.minleft Tryz.call69 (gof12 c) Tryz.call70 p 11 w (fun w1 hb => gput12 p _ w1 _ (hcell 11 (by decide) w1 hb) (hz w1 hb))
    rw [told_wh e] at y
    exact y
theorem first_fault {c : Cf} {n : Nat} (h : upTo c n = []) (e : fieldE c (n + 1) ≠ 0) : ∀ m, n < m → ∃ l, upTo c m = ((n : Int) + 1) :: l := by
  intro m
  induction m with
  | zero => intro h; omega
  | succ m ih =>
    intro hm
    rw [upTo_next]
    by_cases hmn : m = n
    · subst hmn
      rw [if_neg e, h]
      exact ⟨[], rfl⟩
    · obtain ⟨l, hl⟩ := ih (by omega)
      rw [hl]
      by_cases z : fieldE c (m + 1) = 0
      · rw [if_pos z]
        exact ⟨l, rfl⟩
      · rw [if_neg z]
        exact ⟨_, rfl⟩
theorem field_ownN {c : Cf} {j : Nat} (h : fieldE c j = 0) : ownE c j = 0 := by
  unfold fieldE at h
  by_cases z : ownE c j = 0
  · exact z
  · rw [if_pos z] at h
    exact absurd h z
/-- What is set behind n rounds. -/
def partG (f : Nat → Int) (n : Nat) : Array Value := #[.int .i64 (if 0 < n then f 0 else 0), .int .i64 (if 1 < n then f 1 else 0), .int .i64 (if 2 < n then f 2 else 0), .int .i64 (if 3 < n then f 3 else 0), .int .i64 (if 4 < n then f 4 else 0), .int .i64 (if 5 < n then f 5 else 0), .int .i64 (if 6 < n then f 6 else 0), .int .i64 (if 7 < n then f 7 else 0), .int .i64 (if 8 < n then f 8 else 0), .int .i64 (if 9 < n then f 9 else 0), .int .i64 (if 10 < n then f 10 else 0), .int .i64 (if 11 < n then f 11 else 0)]
def partC (c : Cf) (n : Nat) : Array Value := partG (setI c) n
theorem part_nextG (f : Nat → Int) (n : Nat) (hn : n < 12) : (partG f n).setIfInBounds n (.int .i64 (f n)) = partG f (n + 1) := by
  match n, hn with
  | 0, _ | 1, _ | 2, _ | 3, _ | 4, _ | 5, _ | 6, _ | 7, _ | 8, _ | 9, _ | 10, _ | 11, _ => rfl
theorem part_next (c : Cf) (n : Nat) (hn : n < 12) : (partC c n).setIfInBounds n (.int .i64 (setI c n)) = partC c (n + 1) := part_nextG (setI c) n hn
theorem part_size (c : Cf) (n : Nat) : (partC c n).size = 12 := rfl
end Go.Proofs.YtlidlmgmijndcaaGreat.W
