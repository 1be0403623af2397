/- Layer 9's own code, walked: a disk's slots. -/
import Derived.Test.YtcfdggeoecdnnaaDrH
import Derived.Test.YtcfdggeoecdnnaaDrE
import Derived.Test.YtcfdggeoecdnnaaQtA
import Derived.BigQuiet
import Derived.Deep.DeepCutAuto
namespace Go.Proofs.Ytcfdggeoecdnnaa.W
open Go.RowKit Go.Sort
set_option linter.unusedVariables false
set_option linter.unusedSimpArgs false
theorem quiet_world9 {v v' : World} (h : ∃ p : Regrown, v' = grow (redrawn v p.d) p.os) : Below v.heap.size v v' := by
  obtain ⟨p, rfl⟩ := h
  exact below_regrown v p.d p.os
set_option maxHeartbeats 6400000 in
theorem kslots_w {F : Nat → Prop} {p : Nat} {d : Dk} (ok : d.Ok) (w : World) (h : DkIn F w p d) :
    Calls Try.prog 14 #[.pointer (some ⟨p, 0, none⟩)] w fun e w' => e = .returned (slV2 (slA d.s) (slB d.s)) ∧ Below w.heap.size w w' := by
  have hS := ok.s
  have kb := fun w' (B : Below w.heap.size w w') => kbytes_any ok w' (h.kept (Touch.of_below (fun _ => False) B) (fun _ _ e => e))
  have s1 : ∀ w, (Instr.slice 9 (.string (bs d.s)) none (some (.int .i64 16)) none).run Try.prog w = .ok (.string (bs (d.s.take 16))) w := slice_to d.s 16 (by omega)
  have s2 : ∀ w, (Instr.slice 9 (.string (bs d.s)) (some (.int .i64 16)) none none).run Try.prog w = .ok (.string (bs (d.s.drop 16))) w := slice_from d.s 16 (by omega)
  have u1 := fun w => unpack_any (d.s.take 16) (by rw [List.length_take]; omega) w
  have u2 := fun w => unpack_any (d.s.drop 16) (by rw [List.length_drop]; omega) w
  have e2 : (d.s.drop 16).take 16 = d.s.drop 16 := List.take_of_length_le (by rw [List.length_drop]; omega)
  unfold slA slB slV2
  rw [e2]
  generalize slOf (d.s.take 16) = X at *
  generalize slOf (d.s.drop 16) = Y at *
  generalize d.s.take 16 = T1 at *
  generalize d.s.drop 16 = T2 at *
  generalize d.s = S at *
  obtain ⟨xw, xq, xf⟩ := X
  obtain ⟨yw, yq, yf⟩ := Y
  unfold slV at u1 u2
  simp only [] at u1 u2
  have b1 := below_one' w (.cells #[.bool false, .int .u32 0, .int .i64 0, .bool false, .int .u32 0, .int .i64 0] 36)
  have h1 := heap_alloc_new w (.cells #[.bool false, .int .u32 0, .int .i64 0, .bool false, .int .u32 0, .int .i64 0] 36)
  go_enter Try.func14, Try.ntmps14
  go_wp2_with fail
  generalize w.alloc (.cells #[.bool false, .int .u32 0, .int .i64 0, .bool false, .int .u32 0, .int .i64 0] 36) = w1 at *
  (with_reducible refine (kb w1 b1).mono ?_)
  rintro e w2 ⟨rfl, hB⟩
  have h2 := kept_block h1 hB
  have b2 := b1.trans (hB.mono b1.size)
  clear h1 b1 hB kb
  go_wp2_with fail
  have k1 := fun d os => Calls.regrown_of (u1 (grow (redrawn w2 d) os))
  have k2 := fun d os => Calls.regrown_of (u2 (grow (redrawn w2 d) os))
  refine wp_region_below_tail 7 (by kernel_rfl) (by kernel_rfl) ?_
  simp only [List.take_succ_cons, List.take_zero, List.drop_succ_cons, List.drop_zero]
  repeat (quiet_step (first | (with_reducible exact k1 _ _) | (with_reducible exact k2 _ _)))
  refine wpQuiet_nil ?_
  intro w3 hw
  replace hw := quiet_world9 hw
  have h3 := kept_block h2 hw
  have b3 := b2.trans (hw.mono b2.size)
  clear h2 b2 hw k1 k2 u1 u2
  obtain ⟨c0, c1, c2, c3, c4, c5⟩ := six_cells h3
  have z0 := bc_frozen h3 0
  have z1 := bc_frozen h3 1
  have z2 := bc_frozen h3 2
  have z3 := bc_frozen h3 3
  have z4 := bc_frozen h3 4
  have z5 := bc_frozen h3 5
  have hl := (Array.getElem?_eq_some_iff.1 h3).1
  have hn : w.heap.size ≤ w.heap.size := Nat.le_refl _
  have b4 := (((((b3.setCell (p := ⟨w.heap.size, 0, none⟩) hn (.bool xw)).setCell (p := ⟨w.heap.size, 1, none⟩) hn (.int .u32 xq)).setCell (p := ⟨w.heap.size, 2, none⟩) hn (.int .i64 xf)).setCell (p := ⟨w.heap.size, 3, none⟩) hn (.bool yw)).setCell (p := ⟨w.heap.size, 4, none⟩) hn (.int .u32 yq)).setCell (p := ⟨w.heap.size, 5, none⟩) hn (.int .i64 yf)
  clear h3 b3
  go_wp2_with fail
  exact bodyPost_ret (v := .agg #[.bool xw, .int .u32 xq, .int .i64 xf, .bool yw, .int .u32 yq, .int .i64 yf]) (by simp [results, Try.results14, go_sem, c0, c1, c2, c3, c4, c5, z0, z1, z2, z3, z4, z5]) rfl ⟨rfl, b4⟩
end Go.Proofs.Ytcfdggeoecdnnaa.W
