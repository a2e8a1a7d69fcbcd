/-
The rules on operations for regions that draw their order.
-/
import Derived.Deep.RegionHeld3
import Derived.Test.YtbnhegipdfkdgaaDoorP21a
namespace Go.Proofs.YtbnhegipdfkdgaaDoor
open Go.ChangeShapes Go.WideShapes Go.ChangeAt Go.RowKit
set_option linter.unusedVariables false
set_option linter.unusedSimpArgs false
section
variable {ops : Array Oper} {rest : List Oper} {o : Oper} {a : Act} {w w0 : World} {X : Nat → Prop} {x : It} {I : List It} {Q : Exit → Act → World → Prop} {K : Act → World → Prop} {b n k i : Nat} {t e : TypeId} {cs ds : Array Value} {v : Value}
theorem wp_storeS (h : St X w0 w I) (i : Nat) (ho : o.guard = none ∧ stOf a o = some (t, .pointer (some ⟨b, 0, none⟩), .agg ds)) (hI : I[i]? = some (.row b t cs)) (T : StructT t n) (hn : cs.size = n) (F : Fits n ds)
    (k : ∀ w', Hid (St X w0 w' (I.set i (.row b t ds))) → K (a.put o.dst undef) w') : Oper.wp Tryd.prog o a w K Q :=
  wp_store_blk T ⟨h.row i hI, hn⟩ F ho (k _ (Lib.hid (h.set i hI ds)))
theorem wp_store1 (h : St X w0 w I) (i : Nat) (ho : stOf a o = some (t, .pointer (some ⟨b, n, none⟩), v)) {tb : TypeId} (hI : I[i]? = some (.row b tb cs)) (T : One t) (hk : n < cs.size) (h1 : v.oneCell' = true)
    (k : ∀ w', Hid (St X w0 w' (I.set i (.row b tb (cs.setIfInBounds n v)))) → K (a.put o.dst undef) w') : Oper.wp Tryd.prog o a w K Q := by
  obtain ⟨hg, x, y, ho, hx, hy⟩ := stOf_eq ho
  have hrow := h.row i hI
  have hc : w.cell? ⟨b, n, none⟩ = some cs[n] := (cell_of_row w b n _ _ _ hrow).trans (Array.getElem?_eq_getElem hk)
  have hf : w.frozen? ⟨b, n, none⟩ = false := by simp [World.frozen?, hrow]
  have hcells : v.cells = #[v] := by cases v <;> first | rfl | simp [Value.oneCell'] at h1
  have hr : (storeVar t ⟨b, n, none⟩ v).run Tryd.prog w = .ok () (w.setCell ⟨b, n, none⟩ v) := by
    cases hq : Tryd.prog.info? t with
    | none => have := T.info; rw [hq] at this; cases this
    | some i =>
      have hs : i.size = 1 := by have := T.info; rw [hq] at this; simpa using this
      simp [storeVar, hcells, sizeOf, typeInfo, hq, hs, storeCells, run_store Tryd.prog _ _ v _ h1, Addr.add_zero', hc, hf, Result.andThen]
  unfold Oper.wp execOp
  simp only [ho, hx, hy, Instr.storeAt, Instr.sureAddr, Sem.run_bind, Sem.run_pure, Result.andThen_ok, hr]
  refine k _ (Lib.hid ?_)
  rw [setCell_eq_setRow w b n cs tb (0, 0) v hrow]
  exact h.set i hI _
theorem wp_alloc (h : St X w0 w (x :: I)) (zc : Array Value) (ho : alOf o = some t) (hz : Zero t zc)
    (k : ∀ (b : Nat) (w' : World), Hid (St X w0 w' (x :: .row b t zc :: I)) → K (a.put o.dst (.pointer (some ⟨b, 0, none⟩))) w') : Oper.wp Tryd.prog o a w K Q := by
  unfold alOf at ho
  split at ho
  · next t' hg hop =>
    simp at ho; subst ho
    unfold Oper.wp execOp
    unfold Zero at hz
    cases hi : Tryd.prog.info? t' with
    | none => simp [hi] at hz
    | some i =>
      cases hzz : i.zero with
      | none => simp [hi, hzz] at hz
      | some z =>
        simp [hi, hzz] at hz
        subst hz
        have hr : (Instr.alloc t' true (.tuple #[])).run Tryd.prog w = .ok (.pointer (some ⟨w.heap.size, 0, none⟩)) (w.alloc (.cells z.cells t')) := by
          simp [Instr.alloc, zeroValue, typeInfo, hi, hzz, newVar, newRow]
        simp only [hop, Sem.run_bind, hr, Result.andThen_ok, Sem.run_pure]
        exact k _ _ (Lib.hid (h.alloc z.cells t'))
  · cases ho
theorem wp_slice (h : St X w0 w (x :: I)) (ho : bsOf a o = some (t, 1, [(0, .agg cs)])) (hu : Tryd.prog.underlying t = some (.slice e)) (hb : Tryd.prog.builtSlice e 1 [(0, .agg cs)] = some cs)
    (k : ∀ (b : Nat) (w' : World), Hid (St X w0 w' (x :: .row b e cs :: I)) → K (a.put o.dst (.slice (some ⟨b, 0, none⟩) 1 1)) w') : Oper.wp Tryd.prog o a w K Q := by
  unfold bsOf at ho
  split at ho
  · next t' n' parts hg hop =>
    simp only [Option.some.injEq, Prod.mk.injEq] at ho
    obtain ⟨rfl, rfl, hy⟩ := ho
    unfold Program.builtSlice at hb
    cases hie : Tryd.prog.info? e with
    | none => simp [hie] at hb
    | some ie =>
      simp only [hie] at hb
      cases hz : ie.zero with
      | none => simp [hz] at hb
      | some z =>
        simp only [hz] at hb
        split at hb
        · cases hb
        · rename_i hc
          refine wp_buildSlice t' e 1 parts hop cs ie z hu hie hz (fun h' => hc (Or.inl h')) (fun h' => hc (Or.inr h')) ?_ (k _ _ (Lib.hid (h.alloc cs e)))
          rw [Array.toList_map]
          exact (congrArg _ hy).trans hb
  · cases ho
/-- an append at an operation: where the row lies behind it is told too -/
theorem wp_append_own_at {P : Program} (w : World) {o : Oper} {a : Act} {K : Act → World → Prop} {Q : Exit → Act → World → Prop} (s x : Operand) (t : TypeId)
    (ho : o.op = .call { callee := .builtin .append, args := #[s, x], argTypes := #[t, t] })
    (base : Nat) (e : TypeId) (i : TypeInfo) (z : Value) (size bytes : Nat) (ht : P.underlying t = some (.slice e)) (hi : P.info? e = some i) (hz : i.zero = some z)
    (hsize : i.size = size) (hby : i.bytes = bytes) (hzs : z.cells.size = size) (hsz : 0 < size)
    (v : Value) (n : Nat) (xs : List Value) (hs : a.eval s = v) (hown : w.ownsRow base e size v n xs)
    (ad : Addr) (m c : Nat) (news : List Value) (hx : a.eval x = .slice (some ad) m c) (hl : news.length = m * size) (hnews : ∀ j u, news[j]? = some u → w.cell? (ad.add j) = some u) (h1 : ∀ u ∈ news, u.oneCell' = true)
    (h63 : n + m ≤ maxLen) (hbytes : (n + m) * bytes ≤ 140737488355328) (hbase : base ≤ w.heap.size)
    (h : ∀ v' w', w'.ownsRow base e size v' (n + m) (xs ++ news) → w.grownBy w' v.ownBlock → (v' = .slice none 0 0 ↔ v = .slice none 0 0 ∧ m = 0) → (v'.ownBlock = v.ownBlock ∨ v'.ownBlock = some w.heap.size) → K (a.put o.dst v') w') :
    o.wp P a w K Q := by
  obtain ⟨v', w', hr, h2, h3, h4, h5⟩ := run_append_own_at (P := P) w base t o.type e i z size bytes ht hi hz hsize hby hzs hsz v n xs hown ad m c news hl hnews h1 h63 hbytes hbase
  unfold Oper.wp execOp
  simp only [ho, resolve, invoke, builtin, Sem.run_bind, Sem.run_pure, Result.andThen_ok, List.map_toArray, List.map_cons, List.map_nil, hs, hx, hr]
  exact h v' w' h2 h3 h4 h5
theorem wp_append {sz : Nat} {xs : List Value} (h : St X w0 w I) (i j : Nat) (ho : apOf a o = some ([v, .slice (some ⟨b, 0, none⟩) 1 1], [t, t])) (hi : I[i]? = some (ownI e sz v n xs)) (hj : I[j]? = some (.row b e cs)) (hu : Tryd.prog.underlying t = some (.slice e))
    (T : Elem e sz) (hcs : cs.size = sz) (h1 : cs.all (·.oneCell') = true) (hn : n < nMax)
    (k : ∀ (v' : Value) (w' : World), Hid (St X w0 w' (I.set i (ownI e sz v' (n + 1) (xs ++ cs.toList)))) → v'.oneCell' = true → K (a.put o.dst v') w') : Oper.wp Tryd.prog o a w K Q := by
  unfold apOf at ho
  split at ho
  · next c hg hop =>
    split at ho
    · next hcal =>
      simp only [Option.some.injEq, Prod.mk.injEq] at ho
      obtain ⟨hargs, htys⟩ := ho
      obtain ⟨cal, args, tys⟩ := c
      obtain ⟨args⟩ := args
      obtain ⟨tys⟩ := tys
      simp only [] at hcal hargs htys
      subst hcal htys
      obtain ⟨s, args, rfl⟩ : ∃ s r, args = s :: r := by cases args with | nil => simp at hargs | cons s r => exact ⟨s, r, rfl⟩
      obtain ⟨y, args, rfl⟩ : ∃ s r, args = s :: r := by cases args with | nil => simp at hargs | cons s r => exact ⟨s, r, rfl⟩
      obtain rfl : args = [] := by cases args with | nil => rfl | cons s r => simp at hargs
      simp only [List.map_cons, List.map_nil, List.cons.injEq, and_true] at hargs
      obtain ⟨hs, hy⟩ := hargs
      obtain ⟨z, hinf, hz⟩ := T.info
      cases hq : Tryd.prog.info? e with
      | none => simp [hq] at hinf
      | some ie =>
        simp [hq] at hinf
        obtain ⟨hzz, hsz, hby⟩ := hinf
        have hn : n < 16777216 := hn
        obtain ⟨A, B, p1, p2, p3, ⟨hown, hP⟩, p5⟩ := Sep.pick i h.sep hi
        have hrow := h.row j hj
        refine wp_append_own_at w s y t hop 0 e ie z sz ie.bytes hu hq hzz hsz rfl hz T.pos v n xs hs hown ⟨b, 0, none⟩ 1 1 cs.toList hy (by rw [Nat.one_mul, Array.length_toList, hcs]) (fun m u hu => ?_) (fun u hu => (Array.all_eq_true_iff_forall_mem.1 h1) u (by simpa using hu)) (by unfold maxLen; omega) ?_ (Nat.zero_le _) ?_
        · have hadd : (⟨b, 0, none⟩ : Addr).add m = ⟨b, m, none⟩ := by unfold Addr.add; split <;> simp_all
          rw [hadd, cell_of_row w b m _ _ _ hrow]
          simpa using hu
        · have : (n + 1) * ie.bytes ≤ 16777216 * 4096 := Nat.mul_le_mul (by omega) hby
          omega
        · intro v' w' ho' hg' hnil hblk
          have hone : v'.oneCell' = true := by
            rcases ho'.2 with ⟨rfl, _⟩ | ⟨g, cap, cur, rfl, _⟩ <;> rfl
          refine k v' w' (Lib.hid ⟨h.gd, ⟨hg'.os.trans h.rest.os, hg'.tape.trans h.rest.tape, hg'.output.trans h.rest.output, Nat.le_trans h.rest.size hg'.size, fun m hm hx => ?_⟩, ?_⟩) hone
          · rw [hg'.block m (Nat.lt_of_lt_of_le hm h.rest.size) (fun e => ?_)]
            · exact h.rest.block m hm hx
            · have hb := (p1 m (hP m e.symm)).2
              rcases hb with hb | hb
              · exact hx hb
              · omega
          · refine Sep.unpick i hi (Sep.cons (A := fun m => v'.ownBlock = some m) ⟨ho', fun m hm => hm⟩ (p5.loc fun m hm => hg'.block m (p2 m hm).1 fun e => p3 m (hP m e.symm) hm) ?_ ?_ ?_)
            · intro m hm
              rcases hblk with hb | hb
              · have hA := p1 m (hP m (hb.symm.trans hm))
                exact ⟨Nat.lt_of_lt_of_le hA.1 hg'.size, hA.2⟩
              · have hmm : m = w.heap.size := by rw [hb] at hm; cases hm; rfl
                rcases ho'.2 with ⟨rfl, _⟩ | ⟨g, cap, cur, rfl, _, hgh, _⟩
                · cases hm
                · cases hm
                  exact ⟨(Array.getElem?_eq_some_iff.1 hgh).1, Or.inr (by rw [hmm]; exact h.rest.size)⟩
            · exact fun m hm => ⟨Nat.lt_of_lt_of_le (p2 m hm).1 hg'.size, (p2 m hm).2⟩
            · intro m hm hB
              rcases hblk with hb | hb
              · exact p3 m (hP m (hb.symm.trans hm)) hB
              · have hmm : m = w.heap.size := by rw [hb] at hm; cases hm; rfl
                have := (p2 m hB).1
                omega
    · cases ho
  · cases ho
end
end Go.Proofs.YtbnhegipdfkdgaaDoor
