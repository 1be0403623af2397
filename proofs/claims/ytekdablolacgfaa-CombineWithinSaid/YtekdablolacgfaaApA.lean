/- Two rows that lie apart; rows of bools. No program in it. -/
import Derived.Test.YtekdablolacgfaaSlA
import Derived.OwnWalk
import Derived.Laws.AppendOwn
import Derived.Laws.AppendOwnNone
namespace Go.Proofs.Ytekdablolacgfaa.W
open Go.RowKit Go.Sort
set_option linter.unusedVariables false
/-- Their own blocks differ. -/
def Apa (u v : Value) : Prop := ∀ b, u.ownBlock = some b → v.ownBlock = some b → False
theorem apart_ne {u v : Value} (h : Apa u v) : v.ownBlock = none ∨ v.ownBlock ≠ u.ownBlock := by
  cases hv : v.ownBlock with
  | none => exact .inl rfl
  | some b => exact .inr fun e => h b e.symm hv
theorem apart_symm {u v : Value} (h : Apa u v) : Apa v u := fun b h1 h2 => h b h2 h1
theorem apart_left {u v u' : Value} {n H : Nat} (h : Apa u v) (ha : u'.ownBlock = u.ownBlock ∨ u'.ownBlock = some n) (hn : n = H) (hv : ∀ b, v.ownBlock = some b → b < H) : Apa u' v := fun b h1 h2 => by
  rcases ha with ha | ha
  · exact h b (ha.symm.trans h1) h2
  · have e : n = b := Option.some.inj (ha.symm.trans h1)
    have := hv b h2
    omega
theorem apart_new {u v : Value} {g n H cp : Nat} (h : Apa u v) (ha : u.ownBlock = some g ∨ g = H) (hv : ∀ b, v.ownBlock = some b → b < H) : Apa (.slice (some ⟨g, 0, none⟩) n cp) v := fun b h1 h2 => by
  have e : g = b := Option.some.inj h1
  rcases ha with ha | ha
  · exact h b (ha.trans (congrArg some e)) h2
  · have := hv b h2
    omega
theorem rep_snoc (n : Nat) (b : Bool) : List.replicate (n + 1) b = List.replicate n b ++ [b] := List.replicate_succ'
/-- 'append(v, l...)' of a slice that is read. -/
theorem wpList_append_sl {α : Type} {P : Program} (w : World) {ops : Array Oper} {rest : List Oper} {o : Oper} {a : Act} {Q : Exit → Act → World → Prop} (hgd : o.guard = none) (s x : Operand) (t : TypeId)
    (ho : o.op = .call { callee := .builtin .append, args := #[s, x], argTypes := #[t, t] })
    (base : Nat) (e : TypeId) (i : TypeInfo) (z : Value) (size bytes : Nat) (ht : P.underlying t = some (.slice e)) (hi : P.info? e = some i) (hz : i.zero = some z)
    (hsize : i.size = size) (hby : i.bytes = bytes) (hzs : z.cells.size = size) (hsz : 0 < size)
    (v : Value) (n : Nat) (xs : List Value) (hs : a.eval s = v) (hown : w.ownsRow base e size v n xs)
    {F : Nat → Prop} {enc : α → List Value} {vx : Value} {l : List α} (henc : ∀ y, (enc y).length = size) (h1 : ∀ y, ∀ u ∈ enc y, u.oneCell' = true) (hsl : SlAt F size enc w vx l) (hx : a.eval x = vx)
    (h63 : n + l.length ≤ maxLen) (hbytes : (n + l.length) * bytes ≤ 140737488355328) (hbase : base ≤ w.heap.size)
    (h : ∀ v' w', w'.ownsRow base e size v' (n + l.length) (xs ++ l.flatMap enc) → w.grownBy w' v.ownBlock → wpList P ops Q rest (a.put o.dst v') w') : wpList P ops Q (o :: rest) a w := by
  rcases hsl with ⟨ad, c, rfl, hc, rfl⟩ | ⟨b, off, cap, rfl, hF, hcs⟩
  · cases ad with
    | none =>
      obtain rfl := hc rfl
      exact wpList_append_own_none hgd s x t ho base e i size ht hi v n xs hs hown hx (h v w (by simpa using hown) ⟨rfl, rfl, rfl, Nat.le_refl _, fun _ _ _ => rfl⟩)
    | some ad =>
      exact wpList_append_own w hgd s x t ho base e i z size bytes ht hi hz hsize hby hzs hsz v n xs hs hown ad 0 c [] hx (by simp) (fun j u hu => by simp at hu) (fun u hu => by cases hu) h63 hbytes hbase (fun v' w' h2 h3 _ => h v' w' (by simpa using h2) h3)
  · refine wpList_append_own w hgd s x t ho base e i z size bytes ht hi hz hsize hby hzs hsz v n xs hs hown ⟨b, off, none⟩ l.length cap (l.flatMap enc) hx (flat_length size enc henc l) ?_ ?_ h63 hbytes hbase (fun v' w' h2 h3 _ => h v' w' h2 h3)
    · intro j u hu
      obtain ⟨k, y, m, hy, hm, rfl⟩ := flat_inv size enc henc l j u hu
      rw [Addr.add_lit, ← Nat.add_assoc]
      exact hcs k y hy m u hm
    · intro u hu
      obtain ⟨y, _, hy⟩ := List.mem_flatMap.1 hu
      exact h1 y u hy
end Go.Proofs.Ytekdablolacgfaa.W
