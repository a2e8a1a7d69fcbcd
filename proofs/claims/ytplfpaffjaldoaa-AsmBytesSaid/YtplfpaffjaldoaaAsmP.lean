/-
  Package asm: what places returns.
-/
import Derived.Test.YtplfpaffjaldoaaAsmF
namespace Go.Proofs.Ytplfpaffjaldoaa
open Go.ChangeShapes Go.WideShapes Go.ChangeAt Go.RowKit
set_option linter.unusedVariables false
set_option linter.unusedSimpArgs false

/-- where a label stands -/
structure As.Pl where
  label : Int
  addr : Int
def plC (x : As.Pl) : List Value := [.int .i64 x.label, .int .i64 x.addr]
theorem plC_len (x : As.Pl) : (plC x).length = 2 := rfl
/-- the labels among the first items, with where they stand -/
def As.pls (L : List As.It) (at' : List Int) (k : Nat) : List As.Pl := (List.range k).flatMap fun j => match L[j]?, at'[j]? with | some x, some n => if x.kind == 1 then [⟨x.label, n⟩] else [] | _, _ => []
theorem pls_succ (L : List As.It) (at' : List Int) (k : Nat) (hk : k < L.length) (ha : k < at'.length) : As.pls L at' (k + 1) = As.pls L at' k ++ (if L[k].kind == 1 then [⟨L[k].label, at'[k]⟩] else []) := by
  unfold As.pls
  rw [List.range_succ, List.flatMap_append]
  congr 1
  simp [List.getElem?_eq_getElem hk, List.getElem?_eq_getElem ha]
theorem pls_len (L : List As.It) (at' : List Int) (k : Nat) (hk : k ≤ L.length) (ha : k ≤ at'.length) : (As.pls L at' k).length ≤ k := by
  induction k with
  | zero => simp [As.pls]
  | succ k ih =>
    rw [pls_succ L at' k (by omega) (by omega), List.length_append]
    have := ih (by omega) (by omega)
    split <;> simp <;> omega
theorem Try.infoPlace : (Try.prog.info? 43).map (fun i => (i.zero, i.size, i.bytes)) = some (some (.agg #[.int .i64 0, .int .i64 0]), 2, 16) := by kernel_rfl
theorem cell2_new (w : World) (x y : Value) (t : TypeId) : ∀ j u, [x, y][j]? = some u → (w.alloc (.cells #[x, y] t)).cell? ((⟨w.heap.size, 0, none⟩ : Addr).add j) = some u := by
  intro j u hj
  match j, hj with
  | 0, hj => simp at hj; subst hj; simp [go_sem, Addr.add]
  | 1, hj => simp at hj; subst hj; simp [go_sem, Addr.add]
  | j + 2, hj => simp at hj
set_option maxHeartbeats 8000000 in
set_option maxRecDepth 100000 in
theorem places_any (pl pa : Option Addr) (cl ca n m : Nat) (L : List As.It) (at' : List Int) (w : World) (hn : Hid (L.length = n)) (hm : Hid (at'.length = m)) (hb : n ≤ 1000000) (hnm : n ≤ m)
    (hL : Hid (SliceC itC 10 w (.slice pl n cl) L)) (hA : Hid (SliceC intC 1 w (.slice pa m ca) at')) :
    Calls Try.prog 21 #[.slice pl n cl, .slice pa m ca] w fun e w' => ∃ v, e = .returned v ∧ w'.ownsRow w.heap.size 43 2 v (As.pls L at' n).length ((As.pls L at' n).flatMap plC) ∧ Below w.heap.size w w' := by
  obtain ⟨i0, hi, hz0, hz1, hz2⟩ := info_parts Try.infoPlace
  go_enter Try.func21, Try.ntmps21
  go_wp2
  go_loopw [5, 10] (fun P K wr => ∃ k : Nat, K = .int .i64 (k : Int) ∧ k ≤ n ∧ wr.ownsRow w.heap.size 43 2 P (As.pls L at' k).length ((As.pls L at' k).flatMap plC) ∧ Below w.heap.size w wr) (fun _ K _ => n - (intOf K).toNat)
  case atStart => exact ⟨0, rfl, Nat.zero_le _, World.ownsRow_nil _ _ _ _, Below.refl _ _⟩
  case round =>
    obtain ⟨k, rfl, hk, hrow, hB⟩ := hrel
    by_cases hlt : k < n
    · have hkL : k < L.length := by rw [hn.out]; exact hlt
      have hkA : k < at'.length := by rw [hm.out]; omega
      have hlt' : (k : Int) < (n : Int) := by omega
      have hlt2 : (k : Int) < (m : Int) := by omega
      have hk0 : (0 : Int) ≤ (k : Int) := by omega
      have hps := pls_succ L at' k hkL hkA
      have hpl := pls_len L at' k (by omega) (by omega)
      obtain ⟨p', c', e', hat⟩ := hL.out.kept hB
      obtain ⟨a, hpa, hOn⟩ := hat k hkL
      injection e' with ep en ec
      rw [hpa] at ep
      subst ep
      obtain ⟨p2, c2, e2, hat2⟩ := hA.out
      obtain ⟨at_, hpa2, hOn2⟩ := hat2 k hkA
      injection e2 with ep2 en2 ec2
      rw [hpa2] at ep2
      subst ep2
      obtain ⟨A, hAk⟩ : ∃ A, at'[k] = A := ⟨_, rfl⟩
      have hcA0 : w.cell? (at_.add k) = some (.int .i64 A) := by
        have h := hOn2 0 _ rfl
        rw [add_zero', Nat.mul_one, hAk] at h
        exact h
      have hwlt := cell_lt hcA0
      rcases hx : L[k] with ⟨kind, label, ⟨op, rd, rn, rm, ra, imm, cond, wide⟩⟩
      rw [hx, hAk] at hps
      rw [hx] at hOn
      dsimp only at hps
      obtain ⟨x0, x1, x2, x3, x4, x5, x6, x7, x8, x9⟩ := ItAt.of hOn
      have HPS := Lib.hid hps
      clear hOn hat hpa ec en hx hps hat2 hOn2 hpa2 en2 ec2 hAk
      by_cases hk1 : kind = 1
      · subst hk1
        go_wp2
        generalize hw2 : wr.alloc (.cells #[.int .i64 1, .int .i64 label, .int .i64 op, .int .i64 rd, .int .i64 rn, .int .i64 rm, .int .i64 ra, .int .i64 imm, .int .i64 cond, .bool wide] 41) = w2
        have hB2 : Below w.heap.size w w2 := by rw [← hw2]; exact hB.alloc hB.size _
        have hIB : ItBox w2 wr.heap.size 1 label op rd rn rm ra imm cond wide := by rw [← hw2]; exact it_alloc wr 41 1 label op rd rn rm ra imm cond wide
        have hrow2 := hrow.kept (w' := w2) (row := none) (by rw [← hw2]; exact World.grownBy_alloc _ _ none) (Classical.em _)
        have hz2' : wr.heap.size < w2.heap.size := by rw [← hw2]; simp
        have hcA : w2.cell? (at_.add k) = some (.int .i64 A) := by rw [hB2.cell (p := at_.add k) hwlt]; exact hcA0
        clear hw2 x0 x1 x2 x3 x4 x5 x6 x7 x8 x9 hcA0
        refine wp_region_held_drew (S := fun wx => Below w.heap.size w wx ∧ ItBox wx wr.heap.size 1 label op rd rn rm ra imm cond wide ∧ wx.cell? (at_.add k) = some (.int .i64 A)) (by kernel_rfl) (⟨hB2.drew, hIB, hcA⟩) (fun hHeld => ?_)
        refine wpAnyH_take (i := 0) (v := ?_) rfl (by kernel_rfl) (by kernel_rfl) (by kernel_rfl) (fun _ _ _ h => h) (Or.inl ⟨by rfl, ?_⟩) (by assumption) ?_
        rotate_left
        · intro w hSw
          (try dsimp only at hSw)
          go_simp
          (try with_reducible rfl)
        (try simp only [Act.put, List.setIfInBounds_toArray, List.set_cons_zero, List.set_cons_succ])
        refine wpAnyH_take (i := 1) (v := ?_) rfl (by kernel_rfl) (by kernel_rfl) (by kernel_rfl) (fun _ _ _ h => h) (Or.inl ⟨by rfl, ?_⟩) (by assumption) ?_
        rotate_left
        · intro w hSw
          (try dsimp only at hSw)
          go_simp
          (try with_reducible rfl)
        (try simp only [Act.put, List.setIfInBounds_toArray, List.set_cons_zero, List.set_cons_succ])
        refine wpAnyH_take (i := 2) (v := ?_) rfl (by kernel_rfl) (by kernel_rfl) (by kernel_rfl) (fun _ _ _ h => h) (Or.inl ⟨by rfl, ?_⟩) (by assumption) ?_
        rotate_left
        · intro w hSw
          (try dsimp only at hSw)
          go_simp
          (try with_reducible rfl)
        (try simp only [Act.put, List.setIfInBounds_toArray, List.set_cons_zero, List.set_cons_succ])
        refine wpAnyH_take (i := 3) (v := ?_) rfl (by kernel_rfl) (by kernel_rfl) (by kernel_rfl) (fun _ _ _ h => h) (Or.inl ⟨by rfl, ?_⟩) (by assumption) ?_
        rotate_left
        · intro w hSw
          (try dsimp only at hSw)
          go_simp
          (try with_reducible rfl)
        (try simp only [Act.put, List.setIfInBounds_toArray, List.set_cons_zero, List.set_cons_succ])
        refine wpAnyH_take (i := 4) (v := ?_) rfl (by kernel_rfl) (by kernel_rfl) (by kernel_rfl) (fun _ _ _ h => h) (Or.inl ⟨by rfl, ?_⟩) (by assumption) ?_
        rotate_left
        · intro w hSw
          (try dsimp only at hSw)
          go_simp
          (try with_reducible rfl)
        (try simp only [Act.put, List.setIfInBounds_toArray, List.set_cons_zero, List.set_cons_succ])
        refine wpAnyH_take (i := 5) (v := ?_) rfl (by kernel_rfl) (by kernel_rfl) (by kernel_rfl) (fun _ _ _ h => h) (Or.inl ⟨by rfl, ?_⟩) (by assumption) ?_
        rotate_left
        · intro w hSw
          (try dsimp only at hSw)
          go_simp
          (try with_reducible rfl)
        (try simp only [Act.put, List.setIfInBounds_toArray, List.set_cons_zero, List.set_cons_succ])
        refine wpAnyH_take (i := 6) (v := ?_) rfl (by kernel_rfl) (by kernel_rfl) (by kernel_rfl) (fun _ _ _ h => h) (Or.inl ⟨by rfl, ?_⟩) (by assumption) ?_
        rotate_left
        · intro w hSw
          (try dsimp only at hSw)
          go_simp
          (try with_reducible rfl)
        (try simp only [Act.put, List.setIfInBounds_toArray, List.set_cons_zero, List.set_cons_succ])
        refine wpAnyH_take (i := 7) (v := ?_) rfl (by kernel_rfl) (by kernel_rfl) (by kernel_rfl) (fun _ _ _ h => h) (Or.inl ⟨by rfl, ?_⟩) (by assumption) ?_
        rotate_left
        · intro w hSw
          (try dsimp only at hSw)
          go_simp
          (try with_reducible rfl)
        (try simp only [Act.put, List.setIfInBounds_toArray, List.set_cons_zero, List.set_cons_succ])
        refine wpAnyH_ready (rs := [8]) (by kernel_rfl) (by simp) ?_
        refine AllReadyH.cons rfl (fun K hK => ?_) AllReadyH.nil
        go_simp
        refine hK.out _ _ ⟨hB2.drew.alloc (by have := hB2.size; simpa using this) _, hIB.below ((Below.refl _ _).drew.alloc (Nat.le_refl _) _) hz2', by show (w2.alloc _).cell? (at_.add k) = _; rw [((Below.refl w2.heap.size w2).alloc (Nat.le_refl _) _).cell (p := at_.add k) (by have := hB2.size; omega)]; exact hcA⟩ (fun hHeld8 => ?_)
        clear hK K hHeld
        (try simp only [Act.put, List.setIfInBounds_toArray, List.set_cons_zero, List.set_cons_succ])
        refine wpAnyH_ready (rs := [9]) (by kernel_rfl) (by simp) ?_
        refine AllReadyH.cons rfl (fun K hK => ?_) AllReadyH.nil
        rw [if_pos (by rfl)]
        refine wp_append_own _ _ _ 25 rfl w.heap.size 43 i0 (.agg #[.int .i64 0, .int .i64 0]) 2 16 Try.underlying25 hi hz0 hz1 hz2 rfl (by decide) _ _ _ rfl (hrow2.kept (row := none) (grown_below ((Below.refl _ _).drew.alloc (Nat.le_refl _) _)) (Classical.em _)) ⟨w2.heap.size, 0, none⟩ 1 1 [.int .i64 label, .int .i64 A] rfl rfl (cell2_new w2.drew _ _ _) (by simp [Value.oneCell']) (by unfold maxLen; omega) (by omega) (by have := hB2.size; simpa using Nat.le_succ_of_le this) ?_
        intro v' w3 hown' hgrow3 hnil3
        have hB3 : Below w.heap.size w w3 := Below.grown hHeld8.1 hgrow3 (by have := hHeld8.1.size; exact this) (own_ge hrow)
        refine hK.out _ _ ⟨hB3, hHeld8.2.1.grown hgrow3 (by simp; omega) (fun e => by have := own_lt hrow _ e.symm; omega), by rw [hB3.cell (p := at_.add k) hwlt, ← hB2.cell (p := at_.add k) hwlt]; exact hcA⟩ (fun hHeld => ?_)
        clear hK K
        (try simp only [Act.put, List.setIfInBounds_toArray, List.set_cons_zero, List.set_cons_succ])
        refine wpAnyH_take (i := 10) (v := ?_) rfl (by kernel_rfl) (by kernel_rfl) (by kernel_rfl) (fun _ _ _ h => h) (Or.inl ⟨by rfl, ?_⟩) (by assumption) ?_
        rotate_left
        · intro w hSw
          (try dsimp only at hSw)
          go_simp
          (try with_reducible rfl)
        (try simp only [Act.put, List.setIfInBounds_toArray, List.set_cons_zero, List.set_cons_succ])
        refine wpAnyH_done (by kernel_rfl) ?_ _
        go_wp2
        have e1 : As.pls L at' (k + 1) = As.pls L at' k ++ [⟨label, A⟩] := by rw [HPS.out]; rfl
        refine ⟨⟨k + 1, by simp, by omega, ?_, hB3⟩, by simp [intOf]; omega⟩
        rw [e1, List.length_append, List.flatMap_append]
        exact hown'
      · have hk2 : (kind == 1) = false := by simpa using hk1
        have e1 : As.pls L at' (k + 1) = As.pls L at' k := by rw [HPS.out, hk2]; simp
        have E1 := Lib.hid e1
        clear e1
        go_wp2
        exact ⟨⟨k + 1, by simp, by omega, by rw [E1.out]; exact hrow.alloc _, hB.alloc hB.size _⟩, by simp [intOf]; omega⟩
    · have hge : ¬ (k : Int) < (n : Int) := by omega
      obtain rfl : k = n := by omega
      go_wp2
      go_ret
      exact ⟨_, rfl, hrow, hB⟩
end Go.Proofs.Ytplfpaffjaldoaa
