/- AgendaActs: for every list of calls within the statement's own bound, whatever is put, moved, cancelled, doubled and taken, an agenda answers, and has, what the document's own answer comes to. (A list beyond the bound is let go by the statement itself.) No condition. -/
import Derived.Test.YtcnfidfpgohpoaaAgK
import Derived.Test.YtcnfidfpgohpoaaAgZ
import Derived.Test.YtcnfidfpgohpoaaFixZ
import Derived.WalkKit
import Derived.WalkSpells
import Derived.WalkLawsBesides
import Derived.Lib.Hide
import Derived.Handy
import Derived.ProofKit
import Derived.OpenShut
import Derived.ShutString
import Derived.ChangeOld
import Derived.Below
import Derived.Deep.RegionHeld3
namespace Go.Proofs.Ytcnfidfpgohpoaa.AgendaActs
open Go.Proofs.Ytcnfidfpgohpoaa.W
open Go.ChangeShapes Go.WideShapes Go.ChangeAt Go.RowKit
open Go.ChangeMaps (open_string shut_string)
set_option linter.unusedVariables false
theorem own : ownKnob Try.prog.godebug = none := by kernel_rfl
theorem laidOut : laidOutB Try.prog = true := by kernel_rfl
open Go.Sort
set_option linter.unusedSimpArgs false
set_option maxRecDepth 100000 in
set_option maxHeartbeats 12800000 in
theorem walk (v0 : Value) (l : List Bc) (w : World) (iv : SlAt (fun b => b < w.heap.size) 5 bcE w v0 l) (ty : ∀ f ∈ l, Bc.Typed f) (hlm : l.length ≤ maxLen) :
    Calls Try.prog 3 #[v0] w fun e w' => e = .returned (.bool true) ∧ Below w.heap.size w w' := by
  have ch := heavy8_any l hlm (fun x hx => (ty x hx).data) v0 w (fun k hk => hk) iv
  obtain ⟨x, c, rfl⟩ := iv.slice
  have cz := shown8_any
  have cn := fun w' (h : Below w.heap.size w w') => onew8_any w w' h
  have IV := Lib.hid iv
  clear iv
  go_enter Try.func3, Try.ntmps3
  go_wp2_with fail
  (with_reducible refine ch.mono ?_)
  rintro e w' ⟨⟨b, rfl, hb⟩, rfl⟩
  have HLB := Lib.hid hb
  clear hb ch
  cases b
  · have hl := HLB.out rfl
    go_wp2_with fail
    (with_reducible refine (cz _).mono ?_)
    rintro e w1 ⟨rfl, hB1⟩
    go_wp2_with fail
    (with_reducible refine (cn _ hB1).mono ?_)
    rintro e w2 ⟨pc, rfl, h1, hB2⟩
    have hR : RaIn (fun k => k = w2.heap.size) (w2.alloc (.cells #[.slice none 0 0, .int .i64 0] 30)) w2.heap.size agNew :=
      ⟨rfl, fun k hk => by rw [World.size_alloc]; omega, _, heap_alloc_new _ _, .inl ⟨none, 0, rfl, fun _ => rfl, rfl⟩⟩
    have hb := bnew8 h1 hR ((Below.refl _ _).alloc (Nat.le_refl _) _)
    clear h1 hR hB1 hB2 cn
    go_wp2_with fail
    generalize w2.alloc (.cells #[.slice none 0 0, .int .i64 0] 30) = w3 at *
    generalize w2.heap.size = pr at *
    clear w1 w2
    go_loopw [5] (fun i wr => ∃ k : Nat, k ≤ l.length ∧ i = .int .i64 k ∧ Both8 w wr pc pr (bcsS agNew (l.take k))) (fun i _ => l.length - (intOf i).toNat)
    case atStart => exact ⟨0, Nat.zero_le _, rfl, hb⟩
    case round =>
      obtain ⟨k, hk, rfl, hb⟩ := hrel
      have okk := bcs_ok agNew_ok (l.take k) (fun x hx => ty x (List.mem_of_mem_take hx))
      have nk := bcs_n agNew (l.take k)
      have nk' : (bcsS agNew (l.take k)).n ≤ 200 := by
        have : (l.take k).length ≤ 200 := by rw [List.length_take]; omega
        have h0 : agNew.n = 0 := rfl
        omega
      by_cases hlt : k < l.length
      · obtain ⟨f, hf, hfm⟩ := at_index l k hlt
        have hnx := bcs_next agNew l k f hf
        have tyf := ty f hfm
        have okn := bc_ok okk f tyf
        have nb0 := bc_n (bcsS agNew (l.take k)) f
        generalize bcsS agNew (l.take k) = cc at *
        have HN := Lib.hid hnx
        clear hnx
        generalize hcn : bcS cc f = cn at *
        have nb : cn.n ≤ 1000000 := by omega
        have hcl : cn.l.length ≤ 1000000 := Nat.le_trans okn.room (by decide)
        have hsame : lSame itEq cn.l cn.l = true := (lSame_iff itEq_iff _ _).2 rfl
        have heq := it_neq (nextV cn) (nextV cn)
        rw [(itEq_iff _ _).2 rfl] at heq
        unfold It.val at heq
        rcases IV.out with ⟨_, _, _, _, rfl⟩ | ⟨b, off, cap, hv, hbl, hc⟩
        · simp at hlt
        · simp only [Value.slice.injEq] at hv
          obtain ⟨rfl, _, rfl⟩ := hv
          have hcf := hc k f hf
          have hcell : ∀ j u, (bcE f)[j]? = some u → wr.cell? ⟨b, off + k * 5 + j, none⟩ = some u := fun j u hu => ((bcell hb.below).1 b _ hbl).trans (hcf j u hu)
          have a0' : wr.cell? ⟨b, off + k * 5, none⟩ = some (.int .i64 f.kind) := hcell 0 _ rfl
          have a1' : wr.cell? ⟨b, off + k * 5 + 1, none⟩ = some (.int .i64 f.what) := hcell 1 _ rfl
          have a2' : wr.cell? ⟨b, off + k * 5 + 2, none⟩ = some (.int .i64 f.ticket) := hcell 2 _ rfl
          have a3' : wr.cell? ⟨b, off + k * 5 + 3, none⟩ = some (.int .i64 f.at_) := hcell 3 _ rfl
          have a4' : wr.cell? ⟨b, off + k * 5 + 4, none⟩ = some (.string (bs f.data)) := hcell 4 _ rfl
          have i0 : (0 : Int) ≤ (k : Int) := by omega
          have i1 : (k : Int) < (l.length : Int) := by omega
          have hbd : Both8 w wr.drew pc pr cc := hb.kept (Below.refl _ _).drew
          have y := fun w' (h : Both8 w w' pc pr cc) => does8_any okk (by omega) f tyf w' h
          rw [hcn] at y
          clear hc hf hcf hcell nb0 nk nk'
          go_wp2_with fail
          refine wp_region_any (by kernel_rfl) ?_
          change wpAny _ _ _ _ _ _ _ (World.drew _)
          refine wpAny_take (i := 0) (v := .pointer (some ⟨pc, 0, none⟩)) rfl (by kernel_rfl) (by kernel_rfl) (by kernel_rfl) (fun _ _ _ h => h) (Or.inl ⟨by rfl, fun w => by go_simp⟩) ?_
          refine wpAny_take (i := 1) (v := .pointer (some ⟨pr, 0, none⟩)) rfl (by kernel_rfl) (by kernel_rfl) (by kernel_rfl) (fun _ _ _ h => h) (Or.inl ⟨by rfl, fun w => by go_simp⟩) ?_
          refine wpAny_take (i := 2) (v := .slice (some ⟨b, off, none⟩) l.length c) rfl (by kernel_rfl) (by kernel_rfl) (by kernel_rfl) (fun _ _ _ h => h) (Or.inl ⟨by rfl, fun w => by go_simp⟩) ?_
          refine wpAny_take (i := 3) (v := .int .i64 (k : Int)) rfl (by kernel_rfl) (by kernel_rfl) (by kernel_rfl) (fun _ _ _ h => h) (Or.inl ⟨by rfl, fun w => by go_simp⟩) ?_
          refine wpAny_take (i := 4) (v := .pointer (some ⟨b, off + k * 5, none⟩)) rfl (by kernel_rfl) (by kernel_rfl) (by kernel_rfl) (fun _ _ _ h => h) (Or.inl ⟨by rfl, fun w => by go_simp⟩) ?_
          refine wpAny_ready (rs := [5]) (by kernel_rfl) (by simp) ?_
          refine AllReady.cons rfl (fun K hK => ?_) (AllReady.nil)
          go_simp
          (refine hK _ _ ?_; clear hK K)
          refine wpAny_ready (rs := [6]) (by kernel_rfl) (by simp) ?_
          refine AllReady.cons rfl (fun K hK => ?_) (AllReady.nil)
          go_simp
          go_wp2_with ((go_at_call 11; refine (y _ hbd).mono ?_; rintro e w1 ⟨rfl, hb1⟩))
          first | (refine hK _ _ ?_; clear hK K) | skip
          clear a0' a1' a2' a3' a4' y hbd hb
          obtain ⟨vr, s0, hsr⟩ := hb1.cells
          have hpr1 := World.block_lt_of_cell? w1 _ s0
          refine wpAny_take (i := 7) (v := .bool false) rfl (by kernel_rfl) (by kernel_rfl) (by kernel_rfl) (fun _ _ _ h => h) (Or.inl ⟨by rfl, fun w => by go_simp⟩) ?_
          refine wpAny_take (i := 8) (v := .bool false) rfl (by kernel_rfl) (by kernel_rfl) (by kernel_rfl) (fun _ _ _ h => h) (Or.inl ⟨by rfl, fun w => by go_simp⟩) ?_
          refine wpAny_take (i := 9) (v := .pointer (some ⟨pc, 0, none⟩)) rfl (by kernel_rfl) (by kernel_rfl) (by kernel_rfl) (fun _ _ _ h => h) (Or.inl ⟨by rfl, fun w => by go_simp⟩) ?_
          refine wpAny_take (i := 12) (v := .pointer (some ⟨pr, 0, none⟩)) rfl (by kernel_rfl) (by kernel_rfl) (by kernel_rfl) (fun _ _ _ h => h) (Or.inl ⟨by rfl, fun w => by go_simp⟩) ?_
          refine wpAny_take (i := 13) (v := .pointer (some ⟨pr, 0, none⟩)) rfl (by kernel_rfl) (by kernel_rfl) (by kernel_rfl) (fun _ _ _ h => h) (Or.inl ⟨by rfl, fun w => by go_simp⟩) ?_
          refine wpAny_take (i := 14) (v := .pointer (some ⟨pr, 0, none⟩)) rfl (by kernel_rfl) (by kernel_rfl) (by kernel_rfl) (fun _ _ _ h => h) (Or.inl ⟨by rfl, fun w => by go_simp⟩) ?_
          refine wpAny_ready (rs := [10, 15]) (by kernel_rfl) (by simp) ?_
          refine AllReady.cons rfl (fun K hK => ?_) (AllReady.cons rfl (fun K hK => ?_) (AllReady.nil))
          · go_simp
            go_wp2_with ((go_at_call 14; refine (blist8_any okn nb hb1).mono ?_; rintro e w2 ⟨x1, rfl, hs1, hB2⟩))
            first | (refine hK _ _ ?_; clear hK K) | skip
            have s02 := ((bcell hB2).1 pr 0 hpr1).trans s0
            refine wpAny_ready (rs := [11, 15]) (by kernel_rfl) (by simp) ?_
            refine AllReady.cons rfl (fun K hK => ?_) (AllReady.cons rfl (fun K hK => ?_) (AllReady.nil))
            · go_simp
              go_wp2_with ((go_at_call 13; refine (theirs8_any cn.l hcl x1 _ (fun k hk => hk.2) hs1).mono ?_; rintro e w3 ⟨x2, rfl, hs2, hB3⟩))
              first | (refine hK _ _ ?_; clear hK K) | skip
              have s03 := ((bcell (hB2.trans (hB3.mono hB2.size))).1 pr 0 hpr1).trans s0
              refine wpAny_ready (rs := [15]) (by kernel_rfl) (by simp) ?_
              refine AllReady.cons rfl (fun K hK => ?_) (AllReady.nil)
              go_simp
              (refine hK _ _ ?_; clear hK K)
              refine wpAny_ready (rs := [16]) (by kernel_rfl) (by simp) ?_
              refine AllReady.cons rfl (fun K hK => ?_) (AllReady.nil)
              go_simp
              go_wp2_with ((go_at_call 12; refine (rsame8_any cn.l cn.l hcl hcl x2 vr _ hs2 (hsr.kept (fun b hb => (hB2.trans (hB3.mono hB2.size)).block b hb))).mono ?_; rintro e w4 ⟨rfl, m, rfl⟩))
              first | (refine hK _ _ ?_; clear hK K) | skip
              try rw [hsame]
              refine wpAny_take (i := 17) (v := .bool false) rfl (by kernel_rfl) (by kernel_rfl) (by kernel_rfl) (fun _ _ _ h => h) (Or.inl ⟨by rfl, fun w => by go_simp⟩) ?_
              refine wpAny_take (i := 18) (v := .bool false) rfl (by kernel_rfl) (by kernel_rfl) (by kernel_rfl) (fun _ _ _ h => h) (Or.inl ⟨by rfl, fun w => by go_simp⟩) ?_
              refine wpAny_done (by kernel_rfl) ?_ _
              have hb4 := (hb1.kept hB2).kept hB3
              have hb4' := hb4.kept (below_drewN (Below.refl _ _) m)
              clear hs1 hs2 hsr s0 hB2 hB3 hb4 hb1
              generalize w3.drewN m = w4 at *
              (try clear s02)
              (try clear s03)
              clear hpr1
              go_wp2_with fail
              (with_reducible refine (bnext8_any okn nb hb4').mono ?_)
              rintro e w5 ⟨rfl, hB5⟩
              have hb5 := hb4'.kept (hB5.trans ((Below.refl w5.heap.size w5).alloc (Nat.le_refl _) (.cells #[.int .i64 (nextV cn).at_, .int .i64 (nextV cn).kind, .string (bs (nextV cn).data), .int .i64 (nextV cn).ticket] 39) |>.mono hB5.size))
              have y5 := heap_alloc_new w5 (.cells #[.int .i64 (nextV cn).at_, .int .i64 (nextV cn).kind, .string (bs (nextV cn).data), .int .i64 (nextV cn).ticket] 39)
              have z5 := World.size_alloc w5 (.cells #[.int .i64 (nextV cn).at_, .int .i64 (nextV cn).kind, .string (bs (nextV cn).data), .int .i64 (nextV cn).ticket] 39)
              go_wp2_with fail
              (with_reducible refine (brnext8_any okn nb hb5).mono ?_)
              generalize w5.alloc (.cells #[.int .i64 (nextV cn).at_, .int .i64 (nextV cn).kind, .string (bs (nextV cn).data), .int .i64 (nextV cn).ticket] 39) = w5' at *
              rintro e w6 ⟨rfl, hB6⟩
              have hb6 := hb5.kept (hB6.trans ((Below.refl w6.heap.size w6).alloc (Nat.le_refl _) (.cells #[.int .i64 (nextV cn).at_, .int .i64 (nextV cn).kind, .string (bs (nextV cn).data), .int .i64 (nextV cn).ticket] 42) |>.mono hB6.size))
              obtain ⟨c0, c1, c2, c3⟩ := four_cells ((hB6.block w5.heap.size (by omega)).trans y5)
              have lz := Nat.lt_of_lt_of_le (show w5.heap.size < w5'.heap.size by omega) hB6.size
              clear y5 hb5 hb4' hB5 hB6
              go_wp2_with fail
              go_roundw
              case rel => exact ⟨k + 1, by omega, by go_num, by rw [HN.out]; exact hb6⟩
              case measure => simp [intOf]; omega
            · go_simp
              (refine hK _ _ ?_; clear hK K)
              refine wpAny_ready (rs := [11]) (by kernel_rfl) (by simp) ?_
              refine AllReady.cons rfl (fun K hK => ?_) (AllReady.nil)
              go_simp
              go_wp2_with ((go_at_call 13; refine (theirs8_any cn.l hcl x1 _ (fun k hk => hk.2) hs1).mono ?_; rintro e w3 ⟨x2, rfl, hs2, hB3⟩))
              first | (refine hK _ _ ?_; clear hK K) | skip
              refine wpAny_ready (rs := [16]) (by kernel_rfl) (by simp) ?_
              refine AllReady.cons rfl (fun K hK => ?_) (AllReady.nil)
              go_simp
              go_wp2_with ((go_at_call 12; refine (rsame8_any cn.l cn.l hcl hcl x2 vr _ hs2 (hsr.kept (fun b hb => (hB2.trans (hB3.mono hB2.size)).block b hb))).mono ?_; rintro e w4 ⟨rfl, m, rfl⟩))
              first | (refine hK _ _ ?_; clear hK K) | skip
              try rw [hsame]
              refine wpAny_take (i := 17) (v := .bool false) rfl (by kernel_rfl) (by kernel_rfl) (by kernel_rfl) (fun _ _ _ h => h) (Or.inl ⟨by rfl, fun w => by go_simp⟩) ?_
              refine wpAny_take (i := 18) (v := .bool false) rfl (by kernel_rfl) (by kernel_rfl) (by kernel_rfl) (fun _ _ _ h => h) (Or.inl ⟨by rfl, fun w => by go_simp⟩) ?_
              refine wpAny_done (by kernel_rfl) ?_ _
              have hb4 := (hb1.kept hB2).kept hB3
              have hb4' := hb4.kept (below_drewN (Below.refl _ _) m)
              clear hs1 hs2 hsr s0 hB2 hB3 hb4 hb1
              generalize w3.drewN m = w4 at *
              (try clear s02)
              (try clear s03)
              clear hpr1
              go_wp2_with fail
              (with_reducible refine (bnext8_any okn nb hb4').mono ?_)
              rintro e w5 ⟨rfl, hB5⟩
              have hb5 := hb4'.kept (hB5.trans ((Below.refl w5.heap.size w5).alloc (Nat.le_refl _) (.cells #[.int .i64 (nextV cn).at_, .int .i64 (nextV cn).kind, .string (bs (nextV cn).data), .int .i64 (nextV cn).ticket] 39) |>.mono hB5.size))
              have y5 := heap_alloc_new w5 (.cells #[.int .i64 (nextV cn).at_, .int .i64 (nextV cn).kind, .string (bs (nextV cn).data), .int .i64 (nextV cn).ticket] 39)
              have z5 := World.size_alloc w5 (.cells #[.int .i64 (nextV cn).at_, .int .i64 (nextV cn).kind, .string (bs (nextV cn).data), .int .i64 (nextV cn).ticket] 39)
              go_wp2_with fail
              (with_reducible refine (brnext8_any okn nb hb5).mono ?_)
              generalize w5.alloc (.cells #[.int .i64 (nextV cn).at_, .int .i64 (nextV cn).kind, .string (bs (nextV cn).data), .int .i64 (nextV cn).ticket] 39) = w5' at *
              rintro e w6 ⟨rfl, hB6⟩
              have hb6 := hb5.kept (hB6.trans ((Below.refl w6.heap.size w6).alloc (Nat.le_refl _) (.cells #[.int .i64 (nextV cn).at_, .int .i64 (nextV cn).kind, .string (bs (nextV cn).data), .int .i64 (nextV cn).ticket] 42) |>.mono hB6.size))
              obtain ⟨c0, c1, c2, c3⟩ := four_cells ((hB6.block w5.heap.size (by omega)).trans y5)
              have lz := Nat.lt_of_lt_of_le (show w5.heap.size < w5'.heap.size by omega) hB6.size
              clear y5 hb5 hb4' hB5 hB6
              go_wp2_with fail
              go_roundw
              case rel => exact ⟨k + 1, by omega, by go_num, by rw [HN.out]; exact hb6⟩
              case measure => simp [intOf]; omega
          · go_simp
            (refine hK _ _ ?_; clear hK K)
            refine wpAny_ready (rs := [10]) (by kernel_rfl) (by simp) ?_
            refine AllReady.cons rfl (fun K hK => ?_) (AllReady.nil)
            go_simp
            go_wp2_with ((go_at_call 14; refine (blist8_any okn nb hb1).mono ?_; rintro e w2 ⟨x1, rfl, hs1, hB2⟩))
            first | (refine hK _ _ ?_; clear hK K) | skip
            refine wpAny_ready (rs := [11]) (by kernel_rfl) (by simp) ?_
            refine AllReady.cons rfl (fun K hK => ?_) (AllReady.nil)
            go_simp
            go_wp2_with ((go_at_call 13; refine (theirs8_any cn.l hcl x1 _ (fun k hk => hk.2) hs1).mono ?_; rintro e w3 ⟨x2, rfl, hs2, hB3⟩))
            first | (refine hK _ _ ?_; clear hK K) | skip
            refine wpAny_ready (rs := [16]) (by kernel_rfl) (by simp) ?_
            refine AllReady.cons rfl (fun K hK => ?_) (AllReady.nil)
            go_simp
            go_wp2_with ((go_at_call 12; refine (rsame8_any cn.l cn.l hcl hcl x2 vr _ hs2 (hsr.kept (fun b hb => (hB2.trans (hB3.mono hB2.size)).block b hb))).mono ?_; rintro e w4 ⟨rfl, m, rfl⟩))
            first | (refine hK _ _ ?_; clear hK K) | skip
            try rw [hsame]
            refine wpAny_take (i := 17) (v := .bool false) rfl (by kernel_rfl) (by kernel_rfl) (by kernel_rfl) (fun _ _ _ h => h) (Or.inl ⟨by rfl, fun w => by go_simp⟩) ?_
            refine wpAny_take (i := 18) (v := .bool false) rfl (by kernel_rfl) (by kernel_rfl) (by kernel_rfl) (fun _ _ _ h => h) (Or.inl ⟨by rfl, fun w => by go_simp⟩) ?_
            refine wpAny_done (by kernel_rfl) ?_ _
            have hb4 := (hb1.kept hB2).kept hB3
            have hb4' := hb4.kept (below_drewN (Below.refl _ _) m)
            clear hs1 hs2 hsr s0 hB2 hB3 hb4 hb1
            generalize w3.drewN m = w4 at *
            (try clear s02)
            (try clear s03)
            clear hpr1
            go_wp2_with fail
            (with_reducible refine (bnext8_any okn nb hb4').mono ?_)
            rintro e w5 ⟨rfl, hB5⟩
            have hb5 := hb4'.kept (hB5.trans ((Below.refl w5.heap.size w5).alloc (Nat.le_refl _) (.cells #[.int .i64 (nextV cn).at_, .int .i64 (nextV cn).kind, .string (bs (nextV cn).data), .int .i64 (nextV cn).ticket] 39) |>.mono hB5.size))
            have y5 := heap_alloc_new w5 (.cells #[.int .i64 (nextV cn).at_, .int .i64 (nextV cn).kind, .string (bs (nextV cn).data), .int .i64 (nextV cn).ticket] 39)
            have z5 := World.size_alloc w5 (.cells #[.int .i64 (nextV cn).at_, .int .i64 (nextV cn).kind, .string (bs (nextV cn).data), .int .i64 (nextV cn).ticket] 39)
            go_wp2_with fail
            (with_reducible refine (brnext8_any okn nb hb5).mono ?_)
            generalize w5.alloc (.cells #[.int .i64 (nextV cn).at_, .int .i64 (nextV cn).kind, .string (bs (nextV cn).data), .int .i64 (nextV cn).ticket] 39) = w5' at *
            rintro e w6 ⟨rfl, hB6⟩
            have hb6 := hb5.kept (hB6.trans ((Below.refl w6.heap.size w6).alloc (Nat.le_refl _) (.cells #[.int .i64 (nextV cn).at_, .int .i64 (nextV cn).kind, .string (bs (nextV cn).data), .int .i64 (nextV cn).ticket] 42) |>.mono hB6.size))
            obtain ⟨c0, c1, c2, c3⟩ := four_cells ((hB6.block w5.heap.size (by omega)).trans y5)
            have lz := Nat.lt_of_lt_of_le (show w5.heap.size < w5'.heap.size by omega) hB6.size
            clear y5 hb5 hb4' hB5 hB6
            go_wp2_with fail
            go_roundw
            case rel => exact ⟨k + 1, by omega, by go_num, by rw [HN.out]; exact hb6⟩
            case measure => simp [intOf]; omega
      · obtain rfl : k = l.length := by omega
        go_wp2_with fail
        go_ret
        exact ⟨rfl, hb.below⟩
  · go_wp2_with fail
    (with_reducible refine (cz _).mono ?_)
    rintro e w1 ⟨rfl, hB⟩
    go_wp2_with fail
    go_ret
    exact ⟨rfl, hB⟩
set_option maxRecDepth 100000 in
theorem lifted (os : Os) (started : os.Started) (H : Type) (enc : TypeId × Value → H) :
    ReturnsInHanded {} Try.checked os 3 .any (Rows.agendaActsSpec.pre6 enc Try.prog Try.f3 Rows.agendaActsRow.domain false) (Rows.agendaActsSpec.post enc Try.prog Try.f3 false true false false) := by
  refine returnsInHanded_of_change (C := Try.checked) own started (by kernel_rfl) Try.func3
    (ChangeSpec.witness6 (enc := enc) (C := Try.checked) false ⟨#[], #[.slice none 0 0], []⟩ 8 (by kernel_rfl) (by kernel_rfl) (by kernel_rfl) (by kernel_rfl)) ?_
  intro W base args ds gs before hval0 hW hcnd _
  have hval : ∀ (j : Nat) t v, Try.f3.params[j]? = some t → args[j]? = some v → Value.okWide Try.prog W .any base t v := hval0
  have hW' := hW
  obtain ⟨p, q, hA0, hV, rfl, hfz, hnd⟩ := hW
  have hA : DataW.TrodAll enc Try.prog W 0 (fun _ => true) true Try.f3.params.toList args.toList ds p := hA0
  rw [Try.params3] at hA hval
  obtain ⟨v0, vs0, d0, ds0, p0, q0, hargs, rfl, rfl, h0, r0⟩ := trodAll_cons hA
  obtain ⟨rfl, rfl, rfl⟩ := trodAll_nil r0
  obtain rfl : args = #[v0] := by cases args; simp_all
  obtain ⟨rfl, rfl⟩ := trodVars_none hV
  have k0 := h0
  have lt0 : ∀ x ∈ p0, x.block < W.heap.size := by obtain ⟨m, hm⟩ := k0; exact DataW.trod_lt m _ _ _ hm
  obtain ⟨a0, len0, cap0, rfl⟩ := okWide_slice Try.underlying22 (hval 0 22 v0 rfl rfl)
  obtain ⟨z0, w0a, w0b, w0c⟩ : ∃ l : List Bc, SlAt (fun b => b < W.heap.size) 5 bcE W (.slice a0 len0 cap0) l ∧ (∀ f ∈ l, Bc.Typed f) ∧ l.length ≤ maxLen := by
    obtain ⟨fuel, hf⟩ := h0
    obtain ⟨v, l, hcs, h1, h2, h3⟩ := open_bcs hf
    simp [Value.cells] at hcs
    subst hcs
    exact ⟨l, h1, h2, h3⟩
  clear hA0 hval0
  refine (walk (.slice a0 len0 cap0) z0 W w0a w0b w0c).mono fun e W' ⟨he, bel⟩ => ?_
  subst he
  exact ⟨_, rfl, _, _, _, [], _, [], hW', trodAll_mk1 (shut_bool Try.underlying4 _), (trodAll_cons_mk (Below.trod laidOut (by kernel_rfl) (of_decide_eq_true (by kernel_rfl)) k0 bel lt0) trodAll_mk0), rfl, bel.frame _, fun h => by cases h⟩

theorem over : Rows.agendaActsRow.holds Try.pinned (OpenSpec.ofChange Rows.agendaActsSpec) :=
  OpenClaim.holds_of_wide 3 Try.f3 rfl rfl rfl rfl rfl rfl rfl ⟨rfl, rfl, rfl, rfl, rfl⟩ rfl rfl rfl rfl rfl (by kernel_rfl) Try.func3 (by kernel_rfl)
    (of_decide_eq_true (by kernel_rfl)) (by unfold Func.isWrapper; first | (rw [if_pos (by decide +kernel)]; kernel_rfl) | (rw [if_neg (by decide +kernel)]; exact ⟨rfl, rfl⟩))
    (fun os started H enc _ => lifted os started H enc)

theorem proved : Rows.AgendaActsSaid := over
end Go.Proofs.Ytcnfidfpgohpoaa.AgendaActs
