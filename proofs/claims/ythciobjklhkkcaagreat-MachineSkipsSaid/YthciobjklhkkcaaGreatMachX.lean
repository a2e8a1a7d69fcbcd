/-
 A region that only reads and draws its order, in a round of a range over a function.
-/
import Derived.Deep.RegionHeld3
import Derived.Test.YthciobjklhkkcaaGreatMachN
namespace Go.Proofs.YthciobjklhkkcaaGreat
open Go.ChangeShapes Go.WideShapes Go.ChangeAt Go.RowKit Go.Shelf
set_option maxHeartbeats 4000000
set_option maxRecDepth 10000
set_option linter.unusedVariables false
set_option linter.unusedSimpArgs false

def reads (o : Oper) : Bool := match o.op with | .load _ _ | .fieldAddr _ _ _ | .nilCheck _ | .binOp _ _ _ _ _ | .move _ => true | _ => false
theorem vh_bind {α : Type} {P : Program} {m : Sem α} {f : α → Sem Next} {w : World} (h : ∀ a w, (∃ v w', (f a).run P w = .ok (.value v) w') ∨ (∃ x w', (f a).run P w = .halt x w')) : (∃ v w', (m >>= f).run P w = .ok (.value v) w') ∨ (∃ x w', (m >>= f).run P w = .halt x w') := by
 rw [Sem.run_bind]
 cases m.run P w with
 | ok a w' => exact h a w'
 | halt x w' => exact .inr ⟨x, w', rfl⟩
theorem reads_val {P : Program} {ρ : Operand → Value} {o : Oper} {w : World} (h : reads o = true) : (∃ v w', (execOp ρ o).run P w = .ok (.value v) w') ∨ (∃ x w', (execOp ρ o).run P w = .halt x w') := by
 have key : ∀ m : Sem Value, (∃ v w', (do let a ← m; pure (Next.value a) : Sem Next).run P w = .ok (.value v) w') ∨ (∃ x w', (do let a ← m; pure (Next.value a) : Sem Next).run P w = .halt x w') := fun m => by
  rw [Sem.run_bind]
  cases m.run P w with
  | ok a w' => exact .inl ⟨a, w', rfl⟩
  | halt x w' => exact .inr ⟨x, w', rfl⟩
 unfold reads at h
 split at h
 all_goals first
  | (rename_i ho; unfold execOp; simp only [ho]; exact key _)
  | (rename_i ho; unfold execOp; simp only [ho]; exact .inl ⟨_, _, rfl⟩)
  | (rename_i ho; unfold execOp; simp only [ho]; split <;> first | exact .inr ⟨_, _, rfl⟩ | exact .inl ⟨_, _, rfl⟩ | (split <;> first | exact .inr ⟨_, _, rfl⟩ | exact .inl ⟨_, _, rfl⟩ | (refine vh_bind fun a w => ?_; refine vh_bind fun a w => ?_; split <;> first | exact .inl ⟨_, _, rfl⟩ | exact .inr ⟨_, _, rfl⟩ | exact vh_bind fun a w => .inl ⟨_, _, rfl⟩)))
  | cases h
theorem reads_nodefer {o : Oper} (h : reads o = true) : ∀ c, o.op ≠ .defer c := fun c hc => by unfold reads at h; rw [hc] at h; cases h
theorem oper_in {n lo : Nat} {P : Program} {Q : Exit → Act → World → Prop} {o : Oper} {a : Act} {w : World} {K K' : Act → World → Prop} (ho : reads o = true) (hK : ∀ a w, K a w → K' a w) (h : o.wp P a w K Q) : o.wpIn (Fence.wide.inRound lo) n P a w K' Q := by
 refine ⟨fun _ _ => trivial, ?_⟩
 have e2 : o.semAt (Fence.wide.inRound lo).round a.eval = execOp a.eval o := Oper.semAt_some _ _ _ (reads_nodefer ho)
 rw [e2]
 unfold Oper.wp at h
 rcases reads_val (P := P) (ρ := a.eval) (w := w) ho with ⟨v, w', hr⟩ | ⟨x, w', hr⟩
 ·rw [hr] at h ⊢
  exact hK _ _ h
 ·rw [hr] at h ⊢
  cases x <;> exact h
theorem any_in {n lo : Nat} {P : Program} {md : Region.Mode} {ops : Array Oper} {Q : Exit → Act → World → Prop} (hQ : ¬ LetsOut Q) (hr : ∀ (j : Nat) (o : Oper), ops[j]? = some o → reads o = true) :
  ∀ (fuel : Nat) (listed : Array Bool) (a : Act) (w : World), wpAny P md ops Q fuel listed a w → wpAnyIn (Fence.wide.inRound lo) n P md ops Q fuel listed a w
 | 0, _, _, _, h => h
 | fuel + 1, listed, a, w, h => by
  refine ⟨h.1, fun i hi => ?_⟩
  have hh := h.2 i hi
  unfold wpOp at hh
  unfold wpOpIn
  split
  ·rename_i hn
   simp only [hn] at hh
   exact any_in hQ hr fuel _ a w hh
  ·rename_i o ho
   simp only [ho] at hh
   split
   ·rename_i hw
    simp only [hw, if_true] at hh
    rcases hh with hh | ⟨_, hh⟩
    ·exact oper_in (hr i o ho) (fun a w => any_in hQ hr fuel _ a w) hh
    ·exact absurd hh hQ
   ·rename_i hw
    simp only [hw] at hh
    exact ⟨fun _ _ => trivial, any_in hQ hr fuel _ _ w hh⟩
theorem held_round {n lo id : Nat} {P : Program} {Q : Exit → Act → World → Prop} {a : Act} {w : World} {ops : Array Oper} {S : World → Prop} (hm : P.follows .mixedOrders = true) (hQ : ¬ LetsOut Q) (hr : ops.toList.all reads = true) (hS : S w.drew)
  (h : S w.drew → wpAnyH P .any ops Q S ops.size (Array.replicate ops.size false) a w.drew) : (Code.region id ops true).wpIn (Fence.wide.inRound lo) n P Q a w := by
 refine wpIn_region_any hm (any_in hQ (fun j o ho => ?_) _ _ _ _ (wpAny_of_held _ _ _ _ (h hS)))
 exact List.all_eq_true.1 hr o (by have := Array.mem_of_getElem? ho; simpa using this)
theorem held_round' {n lo id : Nat} {P : Program} {Q : Exit → Act → World → Prop} {a : Act} {w : World} {ops : Array Oper} {S : World → Prop} (hm : P.follows .mixedOrders = true) (hr : ops.toList.all reads = true) (hS : S w.drew)
  (h : S w.drew → wpAnyH P .any ops (fun e a' w' => e = .normal ∧ Q .normal a' w') S ops.size (Array.replicate ops.size false) a w.drew) : (Code.region id ops true).wpIn (Fence.wide.inRound lo) n P Q a w :=
 Code.wpIn_mono (fun e a w h => by obtain ⟨rfl, h⟩ := h; exact h) (held_round hm (fun h => by obtain ⟨a, w, h, _⟩ := h; cases h) hr hS h)
end Go.Proofs.YthciobjklhkkcaaGreat
