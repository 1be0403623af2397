/- The code's agenda, walked: settle, move, remove. -/
import Derived.Test.YtcnfidfpgohpoaaAgU
namespace Go.Proofs.Ytcnfidfpgohpoaa.W
open Go.RowKit Go.Sort
set_option linter.unusedVariables false
set_option linter.unusedSimpArgs false
set_option maxHeartbeats 3200000 in
theorem gsettle_any {hb m : Nat} {v : Value} {h : List It} {n : Int} {p : Nat} (w : World) (x : Hv w hb v m h n) (hp : p < h.length) (hH : Hole h p) :
    Calls Try.prog 43 #[.pointer (some ⟨hb, 0, none⟩), .int .i64 p] w fun e w' =>
      e = .returned (.tuple #[]) ∧ ∃ h', Hv w' hb v m h' n ∧ h'.Perm h ∧ HeapF h' ∧ Touch (Sw m v) w w' := by
  have cr := grise_any w x hp hH
  obtain ⟨g, cap, rfl⟩ := x.at_ (by omega)
  have X := Lib.hid x
  clear x
  go_enter Try.func43, Try.ntmps43
  go_wp2_with fail
  (with_reducible refine cr.mono ?_)
  rintro e w1 ⟨rfl, h1, hV1, hp1, hD1, hT1⟩
  have hl1 := hp1.length_eq
  have cs := gsink_any w1 hV1 (by rw [hl1]; exact hp) hD1
  rw [hl1] at cs
  obtain ⟨p0, _, _, _⟩ := three_cells hV1.blk
  have V1 := Lib.hid (And.intro hp1 hT1)
  clear hV1 hp1 hD1 hT1 cr
  go_wp2_with fail
  (with_reducible refine cs.mono ?_)
  rintro e w2 ⟨rfl, h2, hV2, hp2, hD2, hT2⟩
  have V2 := Lib.hid (And.intro hV2 (And.intro hp2 (And.intro hD2 hT2)))
  clear hV2 hp2 hD2 hT2 cs
  go_wp2_with fail
  go_end0
  exact ⟨rfl, h2, V2.out.1, V2.out.2.1.trans V1.out.1, V2.out.2.2.1, V1.out.2.same V2.out.2.2.2⟩
/-- One cell of the row, written. -/
theorem Hv.move {w : World} {hb m g cap : Nat} {h : List It} {n : Int} (x : Hv w hb (.slice (some ⟨g, 0, none⟩) h.length cap) m h n) {p : Nat} {a : It} (hp : h[p]? = some a) (at_ : Int) :
    Hv (w.setCell ⟨g, p * 4, none⟩ (.int .i64 at_)) hb (.slice (some ⟨g, 0, none⟩) h.length cap) m (h.set p ⟨at_, a.kind, a.data, a.ticket⟩) n := by
  obtain ⟨n1, n2⟩ := x.own g rfl
  obtain ⟨D, h1, h2⟩ := x.map
  have r := (World.ownsRow.stored x.row (p * 4) (.int .i64 at_)).1
  rw [flat_set1 h p a at_ hp] at r
  refine ⟨(block_far _ _ (fun e => n1 e.symm)).trans x.blk, ?_, ⟨D, ?_, pl_move h2 hp _ rfl⟩, x.ne, x.own, by simpa using x.len, fun y hy => ?_, uniq_move x.uniq hp _ rfl⟩
  · rw [List.length_set]
    exact r
  · rw [List.length_set]
    exact map_of_block h1 (block_far _ _ (fun e => n2 e.symm))
  · obtain ⟨k, hk, rfl⟩ := List.getElem_of_mem hy
    by_cases e : k = p
    · subst e
      simp
      exact x.tks a (List.mem_of_getElem? hp)
    · rw [List.getElem_set_ne (fun h => e h.symm)]
      exact x.tks _ (List.getElem_mem _)
set_option maxHeartbeats 3200000 in
theorem gmove_any {hb m : Nat} {v : Value} {h : List It} {n : Int} {p : Nat} {a : It} (at_ : Int) (w : World) (x : Hv w hb v m h n) (hp : h[p]? = some a) (hH : HeapF h) :
    Calls Try.prog 34 #[.pointer (some ⟨hb, 0, none⟩), .int .i64 p, .int .i64 at_] w fun e w' =>
      e = .returned (.tuple #[]) ∧ ∃ h', Hv w' hb v m h' n ∧ h'.Perm (h.set p ⟨at_, a.kind, a.data, a.ticket⟩) ∧ HeapF h' ∧ Touch (Sw m v) w w' := by
  have lp := (List.getElem?_eq_some_iff.1 hp).1
  obtain ⟨g, cap, rfl⟩ := x.at_ (by omega)
  obtain ⟨p0, _, _, _⟩ := three_cells x.blk
  obtain ⟨a0, _, _, _⟩ := row_cells x.row hp
  have lp' : (p : Int) < (h.length : Int) := by omega
  have i0 : (0 : Int) ≤ (p : Int) := by omega
  have rf := row_frozen x.row
  have hv1 := x.move hp at_
  have hT : Touch (Sw m (.slice (some ⟨g, 0, none⟩) h.length cap)) w (w.setCell ⟨g, p * 4, none⟩ (.int .i64 at_)) := (Touch.refl _ _).setCell (.inl (.inr rfl)) _
  have cs := gsettle_any (p := p) _ hv1 (by simpa using lp) (hole_set hH p _)
  have HT := Lib.hid hT
  clear x hv1 hT
  go_enter Try.func34, Try.ntmps34
  go_wp2_with fail
  (with_reducible refine cs.mono ?_)
  rintro e w2 ⟨rfl, h2, hV2, hp2, hD2, hT2⟩
  have V2 := Lib.hid (And.intro hV2 (And.intro hp2 (And.intro hD2 hT2)))
  clear hV2 hp2 hD2 hT2 cs
  go_wp2_with fail
  go_end0
  exact ⟨rfl, h2, V2.out.1, V2.out.2.1, V2.out.2.2.1, HT.out.same V2.out.2.2.2⟩
end Go.Proofs.Ytcnfidfpgohpoaa.W
