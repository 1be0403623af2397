/- The document's own answers of layer 5, walked: headers. -/
import Derived.Test.YthfgjhffcbehbaaDoorHdB
import Derived.Test.YthfgjhffcbehbaaDoorHdR
import Derived.Lib.QuietBelow
import Derived.BigQuiet
namespace Go.Proofs.YthfgjhffcbehbaaDoor.W
open Go.RowKit Go.Sort
set_option linter.unusedVariables false
set_option linter.unusedSimpArgs false
set_option maxHeartbeats 400000 in
theorem within_any (n a b : Int) (w : World) :
    Calls Tryd.prog 23 #[.int .i64 n, .int .i64 a, .int .i64 b] w fun e w' => e = .returned (.bool (inB n a b)) ∧ w = w' := by
  by_cases h1 : a ≤ n <;> by_cases h2 : n ≤ b
  all_goals
    go_enter Tryd.func23, Tryd.ntmps23
    go_wp2
    go_ret
    exact ⟨ret1b (by simp [inB, h1, h2]), rfl⟩
theorem within_is (n a b : Int) (x : Bool) (h : inB n a b = x) (w : World) :
    Calls Tryd.prog 23 #[.int .i64 n, .int .i64 a, .int .i64 b] w fun e w' => e = .returned (.bool x) ∧ w = w' := h ▸ within_any n a b w
set_option maxHeartbeats 1600000 in
theorem rmay_any (h : Hd) (w : World) :
    Calls Tryd.prog 11 #[h.val] w fun e w' => e = .returned (.bool h.may) ∧ Below w.heap.size w w' := by
  obtain ⟨x1, e1⟩ : ∃ x, inB h.leap 0 3 = x := ⟨_, rfl⟩
  obtain ⟨x2, e2⟩ : ∃ x, inB h.ver 1 4 = x := ⟨_, rfl⟩
  obtain ⟨x3, e3⟩ : ∃ x, inB h.mode 0 7 = x := ⟨_, rfl⟩
  obtain ⟨x4, e4⟩ : ∃ x, inB h.str 0 255 = x := ⟨_, rfl⟩
  obtain ⟨x5, e5⟩ : ∃ x, inB h.poll (-128) 127 = x := ⟨_, rfl⟩
  obtain ⟨x6, e6⟩ : ∃ x, inB h.prec (-128) 127 = x := ⟨_, rfl⟩
  have hv : h.may = (x1 && x2 && x3 && x4 && x5 && x6) := by unfold Hd.may; rw [e1, e2, e3, e4, e5, e6]
  rw [hv]
  clear hv
  unfold Hd.val
  have c1 := within_is _ _ _ _ e1
  have c2 := within_is _ _ _ _ e2
  have c3 := within_is _ _ _ _ e3
  have c4 := within_is _ _ _ _ e4
  have c5 := within_is _ _ _ _ e5
  have c6 := within_is _ _ _ _ e6
  clear e1 e2 e3 e4 e5 e6
  cases x1
  · go_enter Tryd.func11, Tryd.ntmps11
    go_wp2_with fail
    (with_reducible refine (c1 _).mono ?_)
    rintro e w' ⟨rfl, rfl⟩
    go_wp2_with fail
    go_ret
    exact ⟨rfl, by repeat' (first | (with_reducible exact Below.refl _ _) | (with_reducible assumption) | (with_reducible refine below_drewN ?_ _) | (with_reducible refine Below.drew ?_) | (with_reducible refine Below.setCell ?_ ?_ _) | (with_reducible refine Below.alloc ?_ ?_ _) | (simp; done) | (simp; omega) | omega)⟩
  · skip
    cases x2
    · go_enter Tryd.func11, Tryd.ntmps11
      go_wp2_with fail
      (with_reducible refine (c1 _).mono ?_)
      rintro e w' ⟨rfl, rfl⟩
      go_wp2_with fail
      (with_reducible refine (c2 _).mono ?_)
      rintro e w' ⟨rfl, rfl⟩
      go_wp2_with fail
      go_ret
      exact ⟨rfl, by repeat' (first | (with_reducible exact Below.refl _ _) | (with_reducible assumption) | (with_reducible refine below_drewN ?_ _) | (with_reducible refine Below.drew ?_) | (with_reducible refine Below.setCell ?_ ?_ _) | (with_reducible refine Below.alloc ?_ ?_ _) | (simp; done) | (simp; omega) | omega)⟩
    · skip
      cases x3
      · go_enter Tryd.func11, Tryd.ntmps11
        go_wp2_with fail
        (with_reducible refine (c1 _).mono ?_)
        rintro e w' ⟨rfl, rfl⟩
        go_wp2_with fail
        (with_reducible refine (c2 _).mono ?_)
        rintro e w' ⟨rfl, rfl⟩
        go_wp2_with fail
        (with_reducible refine (c3 _).mono ?_)
        rintro e w' ⟨rfl, rfl⟩
        go_wp2_with fail
        go_ret
        exact ⟨rfl, by repeat' (first | (with_reducible exact Below.refl _ _) | (with_reducible assumption) | (with_reducible refine below_drewN ?_ _) | (with_reducible refine Below.drew ?_) | (with_reducible refine Below.setCell ?_ ?_ _) | (with_reducible refine Below.alloc ?_ ?_ _) | (simp; done) | (simp; omega) | omega)⟩
      · skip
        cases x4
        · go_enter Tryd.func11, Tryd.ntmps11
          go_wp2_with fail
          (with_reducible refine (c1 _).mono ?_)
          rintro e w' ⟨rfl, rfl⟩
          go_wp2_with fail
          (with_reducible refine (c2 _).mono ?_)
          rintro e w' ⟨rfl, rfl⟩
          go_wp2_with fail
          (with_reducible refine (c3 _).mono ?_)
          rintro e w' ⟨rfl, rfl⟩
          go_wp2_with fail
          (with_reducible refine (c4 _).mono ?_)
          rintro e w' ⟨rfl, rfl⟩
          go_wp2_with fail
          go_ret
          exact ⟨rfl, by repeat' (first | (with_reducible exact Below.refl _ _) | (with_reducible assumption) | (with_reducible refine below_drewN ?_ _) | (with_reducible refine Below.drew ?_) | (with_reducible refine Below.setCell ?_ ?_ _) | (with_reducible refine Below.alloc ?_ ?_ _) | (simp; done) | (simp; omega) | omega)⟩
        · skip
          cases x5
          · go_enter Tryd.func11, Tryd.ntmps11
            go_wp2_with fail
            (with_reducible refine (c1 _).mono ?_)
            rintro e w' ⟨rfl, rfl⟩
            go_wp2_with fail
            (with_reducible refine (c2 _).mono ?_)
            rintro e w' ⟨rfl, rfl⟩
            go_wp2_with fail
            (with_reducible refine (c3 _).mono ?_)
            rintro e w' ⟨rfl, rfl⟩
            go_wp2_with fail
            (with_reducible refine (c4 _).mono ?_)
            rintro e w' ⟨rfl, rfl⟩
            go_wp2_with fail
            (with_reducible refine (c5 _).mono ?_)
            rintro e w' ⟨rfl, rfl⟩
            go_wp2_with fail
            go_ret
            exact ⟨rfl, by repeat' (first | (with_reducible exact Below.refl _ _) | (with_reducible assumption) | (with_reducible refine below_drewN ?_ _) | (with_reducible refine Below.drew ?_) | (with_reducible refine Below.setCell ?_ ?_ _) | (with_reducible refine Below.alloc ?_ ?_ _) | (simp; done) | (simp; omega) | omega)⟩
          · skip
            cases x6
            · go_enter Tryd.func11, Tryd.ntmps11
              go_wp2_with fail
              (with_reducible refine (c1 _).mono ?_)
              rintro e w' ⟨rfl, rfl⟩
              go_wp2_with fail
              (with_reducible refine (c2 _).mono ?_)
              rintro e w' ⟨rfl, rfl⟩
              go_wp2_with fail
              (with_reducible refine (c3 _).mono ?_)
              rintro e w' ⟨rfl, rfl⟩
              go_wp2_with fail
              (with_reducible refine (c4 _).mono ?_)
              rintro e w' ⟨rfl, rfl⟩
              go_wp2_with fail
              (with_reducible refine (c5 _).mono ?_)
              rintro e w' ⟨rfl, rfl⟩
              go_wp2_with fail
              (with_reducible refine (c6 _).mono ?_)
              rintro e w' ⟨rfl, rfl⟩
              go_wp2_with fail
              go_ret
              exact ⟨rfl, by repeat' (first | (with_reducible exact Below.refl _ _) | (with_reducible assumption) | (with_reducible refine below_drewN ?_ _) | (with_reducible refine Below.drew ?_) | (with_reducible refine Below.setCell ?_ ?_ _) | (with_reducible refine Below.alloc ?_ ?_ _) | (simp; done) | (simp; omega) | omega)⟩
            · go_enter Tryd.func11, Tryd.ntmps11
              go_wp2_with fail
              (with_reducible refine (c1 _).mono ?_)
              rintro e w' ⟨rfl, rfl⟩
              go_wp2_with fail
              (with_reducible refine (c2 _).mono ?_)
              rintro e w' ⟨rfl, rfl⟩
              go_wp2_with fail
              (with_reducible refine (c3 _).mono ?_)
              rintro e w' ⟨rfl, rfl⟩
              go_wp2_with fail
              (with_reducible refine (c4 _).mono ?_)
              rintro e w' ⟨rfl, rfl⟩
              go_wp2_with fail
              (with_reducible refine (c5 _).mono ?_)
              rintro e w' ⟨rfl, rfl⟩
              go_wp2_with fail
              (with_reducible refine (c6 _).mono ?_)
              rintro e w' ⟨rfl, rfl⟩
              go_wp2_with fail
              go_ret
              exact ⟨rfl, by repeat' (first | (with_reducible exact Below.refl _ _) | (with_reducible assumption) | (with_reducible refine below_drewN ?_ _) | (with_reducible refine Below.drew ?_) | (with_reducible refine Below.setCell ?_ ?_ _) | (with_reducible refine Below.alloc ?_ ?_ _) | (simp; done) | (simp; omega) | omega)⟩
theorem bytes_1 (n : Int) (l : List UInt8) (h0 : 0 ≤ n) (h1 : n < 18446744073709551616) (e : be 1 n = l) (w : World) :
    Calls Tryd.prog 22 #[.int .u64 n, .int .i64 1] w fun e w' => e = .returned (.string (bs l)) ∧ Below w.heap.size w w' := e ▸ bytes_any n 1 h0 h1 (by decide) w
theorem bytes_4 (n : Int) (l : List UInt8) (h0 : 0 ≤ n) (h1 : n < 18446744073709551616) (e : be 4 n = l) (w : World) :
    Calls Tryd.prog 22 #[.int .u64 n, .int .i64 4] w fun e w' => e = .returned (.string (bs l)) ∧ Below w.heap.size w w' := e ▸ bytes_any n 4 h0 h1 (by decide) w
theorem bytes_8 (n : Int) (l : List UInt8) (h0 : 0 ≤ n) (h1 : n < 18446744073709551616) (e : be 8 n = l) (w : World) :
    Calls Tryd.prog 22 #[.int .u64 n, .int .i64 8] w fun e w' => e = .returned (.string (bs l)) ∧ Below w.heap.size w w' := e ▸ bytes_any n 8 h0 h1 (by decide) w
theorem below_in {w w' : World} {o : Obj} (h : Below (w.alloc o).heap.size (w.alloc o) w') : Below w.heap.size w w' :=
  Below.trans (Below.alloc (Below.refl _ _) (Nat.le_refl _) _) (h.mono (by simp))
theorem be_256 (x : Int) : be 1 (x + 256) = be 1 (x % 256) := by
  show [b8 ((x + 256) / 256 ^ 0 % 256)] = [b8 (x % 256 / 256 ^ 0 % 256)]
  rw [Int.pow_zero, Int.ediv_one, Int.ediv_one]
  congr 2
  omega
theorem quiet_world {w w' : World} (h : ∃ p : Regrown, w' = grow (redrawn w p.d) p.os) : Below w.heap.size w w' := by
  obtain ⟨p, rfl⟩ := h
  exact below_regrown w p.d p.os
/-- A header's block. -/
structure HdIn (h : Hd) (b : Nat) (w : World) : Prop where
  lt : b < w.heap.size
  c0 : w.cell? ⟨b, 0, none⟩ = some (.int .i64 h.leap)
  c1 : w.cell? ⟨b, 1, none⟩ = some (.int .i64 h.ver)
  c2 : w.cell? ⟨b, 2, none⟩ = some (.int .i64 h.mode)
  c3 : w.cell? ⟨b, 3, none⟩ = some (.int .i64 h.str)
  c4 : w.cell? ⟨b, 4, none⟩ = some (.int .i64 h.poll)
  c5 : w.cell? ⟨b, 5, none⟩ = some (.int .i64 h.prec)
  c6 : w.cell? ⟨b, 6, none⟩ = some (.int .u32 h.rdel)
  c7 : w.cell? ⟨b, 7, none⟩ = some (.int .u32 h.rdis)
  c8 : w.cell? ⟨b, 8, none⟩ = some (.int .u32 h.ref)
  c9 : w.cell? ⟨b, 9, none⟩ = some (.int .u64 h.reft)
  c10 : w.cell? ⟨b, 10, none⟩ = some (.int .u64 h.org)
  c11 : w.cell? ⟨b, 11, none⟩ = some (.int .u64 h.rcv)
  c12 : w.cell? ⟨b, 12, none⟩ = some (.int .u64 h.tx)
theorem HdIn.kept {h : Hd} {b : Nat} {w w' : World} (H : HdIn h b w) (hB : Below w.heap.size w w') : HdIn h b w' := by
  have c := fun o => (bcell hB).1 b o H.lt
  exact ⟨Nat.lt_of_lt_of_le H.lt hB.size, by rw [c, H.c0], by rw [c, H.c1], by rw [c, H.c2], by rw [c, H.c3], by rw [c, H.c4], by rw [c, H.c5], by rw [c, H.c6], by rw [c, H.c7], by rw [c, H.c8], by rw [c, H.c9], by rw [c, H.c10], by rw [c, H.c11], by rw [c, H.c12]⟩
theorem HdIn.made (h : Hd) (w : World) (t : TypeId) : HdIn h w.heap.size (w.alloc (.cells #[.int .i64 h.leap, .int .i64 h.ver, .int .i64 h.mode, .int .i64 h.str, .int .i64 h.poll, .int .i64 h.prec, .int .u32 h.rdel, .int .u32 h.rdis, .int .u32 h.ref, .int .u64 h.reft, .int .u64 h.org, .int .u64 h.rcv, .int .u64 h.tx] t)) := by
  refine ⟨by simp, ?_, ?_, ?_, ?_, ?_, ?_, ?_, ?_, ?_, ?_, ?_, ?_, ?_⟩
  all_goals simp [go_sem]
def Hd.encS (h : Hd) : List UInt8 := if h.may then h.enc else []
def Hd.encE (h : Hd) : Int := if h.may then 0 else 1
set_option maxHeartbeats 1600000 in
theorem renc_any (h : Hd) (t : h.Typed) (w : World) :
    Calls Tryd.prog 9 #[h.val] w fun e w' => e = .returned (.tuple #[.string (bs h.encS), .int .i64 h.encE]) ∧ Below w.heap.size w w' := by
  have c := rmay_any h
  obtain ⟨x, hx⟩ : ∃ x, h.may = x := ⟨_, rfl⟩
  have hs : h.encS = if x then h.enc else [] := by unfold Hd.encS; rw [hx]
  have he : h.encE = if x then 0 else 1 := by unfold Hd.encE; rw [hx]
  rw [hs, he]
  clear hs he
  rw [hx] at c
  cases x
  · clear hx
    unfold Hd.val at *
    go_enter Tryd.func9, Tryd.ntmps9
    go_wp2_with fail
    (with_reducible refine (c _).mono ?_)
    rintro e w1 ⟨rfl, hB⟩
    go_wp2_with fail
    go_ret2
    exact ⟨rfl, below_in hB⟩
  · have f := Hd.may_fit hx
    obtain ⟨f1, f2, f3, f4, f5, f6⟩ := f
    obtain ⟨t1, t2, t3, t4, t5, t6, t7, t8, t9, t10, t11, t12, t13⟩ := t
    have c1 := bytes_1 (64 * h.leap + 8 * h.ver + h.mode) _ (by omega) (by omega) rfl
    have c2 := bytes_1 (h.str) _ (by omega) (by omega) rfl
    have c3 := bytes_1 (h.poll + 256) (be 1 (h.poll % 256)) (by omega) (by omega) (be_256 _)
    have c4 := bytes_1 (h.prec + 256) (be 1 (h.prec % 256)) (by omega) (by omega) (be_256 _)
    have c5 := bytes_4 (h.rdel) _ (by omega) (by omega) rfl
    have c6 := bytes_4 (h.rdis) _ (by omega) (by omega) rfl
    have c7 := bytes_4 (h.ref) _ (by omega) (by omega) rfl
    have c8 := bytes_8 (h.reft) _ (by omega) (by omega) rfl
    have c9 := bytes_8 (h.org) _ (by omega) (by omega) rfl
    have c10 := bytes_8 (h.rcv) _ (by omega) (by omega) rfl
    have c11 := bytes_8 (h.tx) _ (by omega) (by omega) rfl
    have hE : h.enc = be 1 (64 * h.leap + 8 * h.ver + h.mode) ++ be 1 h.str ++ be 1 (h.poll % 256) ++ be 1 (h.prec % 256) ++ be 4 h.rdel ++ be 4 h.rdis ++ be 4 h.ref ++ be 8 h.reft ++ be 8 h.org ++ be 8 h.rcv ++ be 8 h.tx := rfl
    have HE := Lib.hid hE
    clear hE hx
    unfold Hd.val at *
    go_enter Tryd.func9, Tryd.ntmps9
    go_wp2_with fail
    (with_reducible refine (c _).mono ?_)
    rintro e w1 ⟨rfl, hB⟩
    have H := (HdIn.made h w 25).kept hB
    replace hB := below_in hB
    go_wp2_with fail
    have w1a : IntKind.i64.wrap (64 * h.leap) = 64 * h.leap := by rw [IntKind.wrap_i64]; omega
    have w1b : IntKind.i64.wrap (8 * h.ver) = 8 * h.ver := by rw [IntKind.wrap_i64]; omega
    have w1c : IntKind.i64.wrap (64 * h.leap + 8 * h.ver) = 64 * h.leap + 8 * h.ver := by rw [IntKind.wrap_i64]; omega
    have w1d : IntKind.i64.wrap (64 * h.leap + 8 * h.ver + h.mode) = 64 * h.leap + 8 * h.ver + h.mode := by rw [IntKind.wrap_i64]; omega
    have w1e : IntKind.u64.wrap (64 * h.leap + 8 * h.ver + h.mode) = 64 * h.leap + 8 * h.ver + h.mode := by rw [IntKind.wrap_u64]; omega
    have w1f : IntKind.u64.wrap h.str = h.str := by rw [IntKind.wrap_u64]; omega
    have w1g : IntKind.i64.wrap (h.poll + 256) = h.poll + 256 := by rw [IntKind.wrap_i64]; omega
    have w1h : IntKind.u64.wrap (h.poll + 256) = h.poll + 256 := by rw [IntKind.wrap_u64]; omega
    have w1i : IntKind.i64.wrap (h.prec + 256) = h.prec + 256 := by rw [IntKind.wrap_i64]; omega
    have w1j : IntKind.u64.wrap (h.prec + 256) = h.prec + 256 := by rw [IntKind.wrap_u64]; omega
    have k0 := cell_regrown H.c0
    have k1 := cell_regrown H.c1
    have k2 := cell_regrown H.c2
    have k3 := cell_regrown H.c3
    have k4 := cell_regrown H.c4
    have k5 := cell_regrown H.c5
    have d0 := fun d os => Calls.regrown_of (c1 (grow (redrawn w1 d) os))
    have d1 := fun d os => Calls.regrown_of (c2 (grow (redrawn w1 d) os))
    have d2 := fun d os => Calls.regrown_of (c3 (grow (redrawn w1 d) os))
    have d3 := fun d os => Calls.regrown_of (c4 (grow (redrawn w1 d) os))
    refine wp_region_quiet_below (by kernel_rfl) (by kernel_rfl) ?_
    repeat (quiet_step (first | (with_reducible exact d0 _ _) | (with_reducible exact d1 _ _) | (with_reducible exact d2 _ _) | (with_reducible exact d3 _ _)))
    refine wpQuiet_nil ?_
    intro w2 hw
    replace hw := quiet_world hw
    clear d0 d1 d2 d3 k0 k1 k2 k3 k4 k5
    replace H := H.kept hw
    replace hB := hB.trans (hw.mono hB.size)
    clear hw
    clear w1a w1b w1c w1d w1e w1f w1g w1h w1i w1j
    go_wp2_with fail
    have w2a : IntKind.u64.wrap h.rdel = h.rdel := by rw [IntKind.wrap_u64]; omega
    have w2b : IntKind.u64.wrap h.rdis = h.rdis := by rw [IntKind.wrap_u64]; omega
    have w2c : IntKind.u64.wrap h.ref = h.ref := by rw [IntKind.wrap_u64]; omega
    have k0 := cell_regrown H.c6
    have k1 := cell_regrown H.c7
    have k2 := cell_regrown H.c8
    have d0 := fun d os => Calls.regrown_of (c5 (grow (redrawn w2 d) os))
    have d1 := fun d os => Calls.regrown_of (c6 (grow (redrawn w2 d) os))
    have d2 := fun d os => Calls.regrown_of (c7 (grow (redrawn w2 d) os))
    refine wp_region_quiet_below (by kernel_rfl) (by kernel_rfl) ?_
    repeat (quiet_step (first | (with_reducible exact d0 _ _) | (with_reducible exact d1 _ _) | (with_reducible exact d2 _ _)))
    refine wpQuiet_nil ?_
    intro w3 hw
    replace hw := quiet_world hw
    clear d0 d1 d2 k0 k1 k2
    replace H := H.kept hw
    replace hB := hB.trans (hw.mono hB.size)
    clear hw
    clear w2a w2b w2c
    go_wp2_with fail
    have k0 := cell_regrown H.c9
    have k1 := cell_regrown H.c10
    have k2 := cell_regrown H.c11
    have k3 := cell_regrown H.c12
    have d0 := fun d os => Calls.regrown_of (c8 (grow (redrawn w3 d) os))
    have d1 := fun d os => Calls.regrown_of (c9 (grow (redrawn w3 d) os))
    have d2 := fun d os => Calls.regrown_of (c10 (grow (redrawn w3 d) os))
    have d3 := fun d os => Calls.regrown_of (c11 (grow (redrawn w3 d) os))
    refine wp_region_quiet_below (by kernel_rfl) (by kernel_rfl) ?_
    repeat (quiet_step (first | (with_reducible exact d0 _ _) | (with_reducible exact d1 _ _) | (with_reducible exact d2 _ _) | (with_reducible exact d3 _ _)))
    refine wpQuiet_nil ?_
    intro w4 hw
    replace hw := quiet_world hw
    clear d0 d1 d2 d3 k0 k1 k2 k3
    replace H := H.kept hw
    replace hB := hB.trans (hw.mono hB.size)
    clear hw
    go_wp2_with fail
    go_ret2
    exact ⟨by rw [HE.out]; simp, hB⟩
end Go.Proofs.YthfgjhffcbehbaaDoor.W
