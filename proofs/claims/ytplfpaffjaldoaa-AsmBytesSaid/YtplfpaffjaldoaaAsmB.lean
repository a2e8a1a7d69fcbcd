/-
  Package asm: what Lay returns.
-/
import Derived.OwnWalk
import Derived.Deep.RegionHeld3
import Derived.StillTailTactics
import Derived.Test.YtplfpaffjaldoaaAsmA
namespace Go.Proofs.Ytplfpaffjaldoaa
open Go.ChangeShapes Go.WideShapes Go.ChangeAt Go.RowKit
set_option linter.unusedVariables false
set_option linter.unusedSimpArgs false

/-- where items stand -/
def As.wd (w : List Bool) (k : Nat) : Bool := w.getD k false
def As.at (L : List As.It) (w : List Bool) (base : Int) : Nat → Int
  | 0 => base
  | k + 1 => As.at L w base k + (match L[k]? with | some x => As.size x.kind x.ins (As.wd w k) | none => 0)
def As.lay (L : List As.It) (w : List Bool) (base : Int) : List Int := (List.range (L.length + 1)).map (As.at L w base)
theorem Th.size_bd (i : Th.Ins) : 0 ≤ Th.size i ∧ Th.size i ≤ 4 := by
  unfold Th.size; split
  · split
    · omega
    · split <;> omega
  · omega
theorem As.size_bd (k : Int) (i : Th.Ins) (wd : Bool) : 0 ≤ As.size k i wd ∧ As.size k i wd ≤ 4 := by
  have := Th.size_bd i
  unfold As.size
  split
  · exact this
  · split
    · cases wd <;> simp
    · omega
theorem As.at_bd (L : List As.It) (w : List Bool) (base : Int) (k : Nat) : base ≤ As.at L w base k ∧ As.at L w base k ≤ base + 4 * k := by
  induction k with
  | zero => simp [As.at]
  | succ k ih =>
    rw [As.at]
    split
    · rename_i x _
      have := As.size_bd x.kind x.ins (As.wd w k)
      omega
    · omega
def intC (n : Int) : List Value := [.int .i64 n]
def boolC (b : Bool) : List Value := [.bool b]
def As.latC (L : List As.It) (w : List Bool) (base : Int) (k : Nat) : List Value := ((List.range k).map (As.at L w base)).flatMap intC
theorem As.latC_succ (L : List As.It) (w : List Bool) (base : Int) (k : Nat) : As.latC L w base (k + 1) = As.latC L w base k ++ [.int .i64 (As.at L w base k)] := by
  unfold As.latC; rw [List.range_succ, List.map_append, List.flatMap_append]; rfl
theorem own_lt {W : World} {base : Nat} {e : TypeId} {size : Nat} {v : Value} {n : Nat} {xs : List Value} (h : W.ownsRow base e size v n xs) : ∀ j, v.ownBlock = some j → j < W.heap.size := by
  intro j ej
  rcases h.2 with ⟨rfl, _⟩ | ⟨g, cap, cur, rfl, hb, hg, _⟩
  · simp [Value.ownBlock] at ej
  · obtain rfl : g = j := by simpa [Value.ownBlock] using ej
    exact (Array.getElem?_eq_some_iff.1 hg).1
section
variable {W w' : World} {b : Nat} {kind label op rd rn rm ra imm cond : Int} {wide : Bool}
theorem ItBox.grown (h : ItBox W b kind label op rd rn rm ra imm cond wide) {row : Option Nat} (hg : W.grownBy w' row) (hlt : b < W.heap.size) (hne : some b ≠ row) : ItBox w' b kind label op rd rn rm ra imm cond wide := by
  obtain ⟨h0, h1, h2, h3, h4, h5, h6, h7, h8, h9⟩ := h
  have hb := hg.block b hlt hne
  refine ⟨?_, ?_, ?_, ?_, ?_, ?_, ?_, ?_, ?_, ?_⟩ <;> (rw [World.cell?_of_block (by exact hb)]; assumption)
end
theorem sy_it {w3 w1 w2 : World} {b : Nat} {p : Addr} {u : Value} {kind label op rd rn rm ra imm cond : Int} {wide : Bool} (hb : Below w1.heap.size w1 w2) (h : Below w3.heap.size w3 w1 ∧ ItBox w1 b kind label op rd rn rm ra imm cond wide ∧ w1.cell? p = some u) (h1 : b < w3.heap.size) (h2 : p.block < w3.heap.size) :
    Below w3.heap.size w3 w2 ∧ ItBox w2 b kind label op rd rn rm ra imm cond wide ∧ w2.cell? p = some u := by
  obtain ⟨a1, a2, a3⟩ := h
  have hz := a1.size
  exact ⟨a1.trans (hb.mono hz), a2.below hb (by omega), by rw [hb.cell (p := p) (by omega)]; exact a3⟩
theorem sy_it0 {w3 w1 w2 : World} {b : Nat} {kind label op rd rn rm ra imm cond : Int} {wide : Bool} (hb : Below w1.heap.size w1 w2) (h : Below w3.heap.size w3 w1 ∧ ItBox w1 b kind label op rd rn rm ra imm cond wide) (h1 : b < w3.heap.size) :
    Below w3.heap.size w3 w2 ∧ ItBox w2 b kind label op rd rn rm ra imm cond wide := by
  obtain ⟨a1, a2⟩ := h
  have hz := a1.size
  exact ⟨a1.trans (hb.mono hz), a2.below hb (by omega)⟩
theorem Try.infoInt' : (Try.prog.info? 3).map (fun i => (i.zero, i.size, i.bytes)) = some (some (.int .i64 0), 1, 8) := by kernel_rfl
set_option maxHeartbeats 8000000 in
set_option maxRecDepth 100000 in
theorem alay_any (pl pw : Option Addr) (cl cw n m : Nat) (L : List As.It) (wl : List Bool) (base : Int) (w : World) (hn : Hid (L.length = n)) (hm : Hid (wl.length = m)) (hb : n ≤ 1000000) (h0 : -1000000 ≤ base) (h1 : base ≤ 1000000)
    (hL : Hid (SliceC itC 10 w (.slice pl n cl) L)) (hW : Hid (SliceC boolC 1 w (.slice pw m cw) wl)) :
    Calls Try.prog 13 #[.slice pl n cl, .int .i64 base, .slice pw m cw] w fun e w' => ∃ v, e = .returned v ∧ w'.ownsRow w.heap.size 3 1 v (n + 1) (As.latC L wl base (n + 1)) ∧ Below w.heap.size w w' := by
  obtain ⟨i0, hi, hz0, hz1, hz2⟩ := info_parts Try.infoInt'
  go_enter Try.func13, Try.ntmps13
  go_wp2_with (at_make; refine wpList_make_own _ rfl _ _ 46 rfl w.heap.size 3 i0 (.int .i64 0) 1 Try.underlying46 hi hz0 hz1 .i64 .i64 _ (n + 1) rfl rfl (by omega) (by rw [hz2]; omega) (by unfold maxLen; omega) (Nat.le_refl _) ?_; intro w0 hown0 hgrow0)
  have hB0 : Below w.heap.size w w0 := (Below.refl _ _).grown hgrow0 (Nat.le_refl _) (fun k e => by cases e)
  go_loopw [1, 7, 16] (fun Bs A K wr => ∃ k : Nat, Bs = .int .i64 (As.at L wl base k) ∧ K = .int .i64 (k : Int) ∧ k ≤ n ∧ wr.ownsRow w.heap.size 3 1 A k (As.latC L wl base k) ∧ Below w.heap.size w wr) (fun _ _ K _ => n - (intOf K).toNat)
  case atStart => exact ⟨0, rfl, rfl, Nat.zero_le _, hown0, hB0⟩
  case round =>
    obtain ⟨k, rfl, rfl, hk, hrow, hB⟩ := hrel
    have hbd := As.at_bd L wl base k
    obtain ⟨A, hA⟩ : ∃ A, As.at L wl base k = A := ⟨_, rfl⟩
    rw [hA] at hbd
    have hlat := As.latC_succ L wl base k
    rw [hA] at hlat
    have HA := Lib.hid hA
    have HLat := Lib.hid hlat
    rw [hA]
    obtain ⟨hbd1, hbd2⟩ := hbd
    clear hA hlat hown0 hgrow0 hB0
    by_cases hlt : k < n
    · have hkL : k < L.length := by rw [hn.out]; exact hlt
      have hlt' : (k : Int) < (n : Int) := by omega
      have hk0 : (0 : Int) ≤ (k : Int) := by omega
      obtain ⟨p', c', e', hat⟩ := hL.out.kept hB
      obtain ⟨a, hpa, hOn⟩ := hat k hkL
      injection e' with ep en ec
      rw [hpa] at ep
      subst ep
      rcases hx : L[k] with ⟨kind, label, ⟨op, rd, rn, rm, ra, imm, cond, wide⟩⟩
      rw [hx] at hOn
      obtain ⟨x0, x1, x2, x3, x4, x5, x6, x7, x8, x9⟩ := ItAt.of hOn
      obtain ⟨bv, hbv⟩ : ∃ bv, As.wd wl k = bv := ⟨_, rfl⟩
      obtain ⟨Z, hZ⟩ : ∃ Z, As.size kind ⟨op, rd, rn, rm, ra, imm, cond, wide⟩ bv = Z := ⟨_, rfl⟩
      have hZb := As.size_bd kind ⟨op, rd, rn, rm, ra, imm, cond, wide⟩ bv
      rw [hZ] at hZb
      have hnext : As.at L wl base (k + 1) = A + Z := by
        rw [As.at, HA.out, List.getElem?_eq_getElem hkL, hx, hbv]
        exact congrArg _ hZ
      have HNext := Lib.hid hnext
      have HZ : Hid (∀ w : World, Calls Try.prog 30 #[.agg #[.int .i64 kind, .int .i64 label, .int .i64 op, .int .i64 rd, .int .i64 rn, .int .i64 rm, .int .i64 ra, .int .i64 imm, .int .i64 cond, .bool wide], .bool bv] w fun e w' => e = .returned (.int .i64 Z) ∧ Below w.heap.size w w') := Lib.hid fun w => by rw [← hZ]; exact asize_any kind label op rd rn rm ra imm cond wide bv w
      obtain ⟨hZ0, hZ1⟩ := hZb
      have hwr : IntKind.i64.wrap (A + Z) = A + Z := IntWalk.i64_in _ (by omega)
      clear hOn hat hpa ec en hx hZ hnext
      by_cases hw : k < m
      · have hkW : k < wl.length := by rw [hm.out]; exact hw
        have hw' : (k : Int) < (m : Int) := by omega
        have hbl : wl[k] = bv := by rw [← hbv]; unfold As.wd; rw [List.getD_eq_getElem?_getD, List.getElem?_eq_getElem hkW]; rfl
        obtain ⟨p2, c2, e2, hat2⟩ := hW.out
        obtain ⟨aw, hpw, hOn3⟩ := hat2 k hkW
        injection e2 with ep2 en2 ec2
        rw [hpw] at ep2
        subst ep2
        have hcw0 : w.cell? (aw.add k) = some (.bool bv) := by
          have h := hOn3 0 _ rfl
          rw [add_zero', Nat.mul_one, hbl] at h
          exact h
        have hwlt := cell_lt hcw0
        clear hat2 en2 ec2 hbl hpw hOn3
        go_wp2_with (at_builtin; refine wpList_append_own _ rfl _ _ 46 rfl w.heap.size 3 i0 (.int .i64 0) 1 8 Try.underlying46 hi hz0 hz1 hz2 rfl (by decide) _ _ _ rfl ((hrow.alloc _).alloc _) ⟨wr.heap.size + 1, 0, none⟩ 1 1 [.int .i64 A] rfl rfl (by have h := cell_one_new (wr.alloc (.cells #[.int .i64 kind, .int .i64 label, .int .i64 op, .int .i64 rd, .int .i64 rn, .int .i64 rm, .int .i64 ra, .int .i64 imm, .int .i64 cond, .bool wide] 41)) (.int .i64 A) 3; rw [World.size_alloc] at h; exact h) (by simp [Value.oneCell']) (by unfold maxLen; omega) (by omega) (by have := hB.size; simp; omega) ?_; intro v' w3 hown' hgrow3 hnil3)
        have hB3 : Below w.heap.size w w3 := ((hB.alloc hB.size _).alloc (by have := hB.size; simp; omega) _).grown hgrow3 (by have := hB.size; simp; omega) (own_ge hrow)
        have hIB : ItBox w3 wr.heap.size kind label op rd rn rm ra imm cond wide := by
          have h1 := it_alloc wr 41 kind label op rd rn rm ra imm cond wide
          have h2 := h1.below ((Below.refl _ _).alloc (Nat.le_refl _) (.cells #[.int .i64 A] 3)) (by simp)
          exact h2.grown hgrow3 (by simp; omega) (fun e => by have := own_lt hrow _ e.symm; omega)
        have hz3 : wr.heap.size < w3.heap.size := by have := hgrow3.size; simp at this; omega
        have hcw : w3.cell? (aw.add k) = some (.bool bv) := by rw [hB3.cell (p := aw.add k) hwlt]; exact hcw0
        have hlt3 : (aw.add k).block < w3.heap.size := by have := hB3.size; omega
        clear x0 x1 x2 x3 x4 x5 x6 x7 x8 x9 hcw0
        go_region_held3 (fun wx => Below w3.heap.size w3 wx ∧ ItBox wx wr.heap.size kind label op rd rn rm ra imm cond wide ∧ wx.cell? (aw.add k) = some (.bool bv))
          (first | exact ⟨(Below.refl _ _).drew, hIB, hcw⟩ | exact sy_it (by assumption) (by assumption) hz3 hlt3)
          (first | (go_at_call 30; refine (HZ.out _).mono ?_; rintro e w4 ⟨rfl, hb4⟩))
        all_goals
          rename_i hH
          go_wp2
          refine ⟨⟨k + 1, by rw [HNext.out], by simp, by omega, ?_, hB3.trans (hH.1.mono hB3.size)⟩, by simp [intOf]; omega⟩
          rw [HLat.out]
          exact hown'.kept (grown_below hH.1) (Classical.em _)
      · have hw' : ¬ (k : Int) < (m : Int) := by omega
        have hw2 : decide ((k : Int) < (m : Int)) = false := decide_eq_false hw'
        obtain rfl : bv = false := by
          rw [← hbv]; unfold As.wd; rw [List.getD_eq_getElem?_getD, List.getElem?_eq_none (by rw [hm.out]; omega)]; rfl
        go_wp2_with (at_builtin; refine wpList_append_own _ rfl _ _ 46 rfl w.heap.size 3 i0 (.int .i64 0) 1 8 Try.underlying46 hi hz0 hz1 hz2 rfl (by decide) _ _ _ rfl ((hrow.alloc _).alloc _) ⟨wr.heap.size + 1, 0, none⟩ 1 1 [.int .i64 A] rfl rfl (by have h := cell_one_new (wr.alloc (.cells #[.int .i64 kind, .int .i64 label, .int .i64 op, .int .i64 rd, .int .i64 rn, .int .i64 rm, .int .i64 ra, .int .i64 imm, .int .i64 cond, .bool wide] 41)) (.int .i64 A) 3; rw [World.size_alloc] at h; exact h) (by simp [Value.oneCell']) (by unfold maxLen; omega) (by omega) (by have := hB.size; simp; omega) ?_; intro v' w3 hown' hgrow3 hnil3)
        have hB3 : Below w.heap.size w w3 := ((hB.alloc hB.size _).alloc (by have := hB.size; simp; omega) _).grown hgrow3 (by have := hB.size; simp; omega) (own_ge hrow)
        have hIB : ItBox w3 wr.heap.size kind label op rd rn rm ra imm cond wide := by
          have h1 := it_alloc wr 41 kind label op rd rn rm ra imm cond wide
          have h2 := h1.below ((Below.refl _ _).alloc (Nat.le_refl _) (.cells #[.int .i64 A] 3)) (by simp)
          exact h2.grown hgrow3 (by simp; omega) (fun e => by have := own_lt hrow _ e.symm; omega)
        have hz3 : wr.heap.size < w3.heap.size := by have := hgrow3.size; simp at this; omega
        clear x0 x1 x2 x3 x4 x5 x6 x7 x8 x9
        clear hw' hnil3
        refine wp_region_held_drew (S := fun wx => Below w3.heap.size w3 wx ∧ ItBox wx wr.heap.size kind label op rd rn rm ra imm cond wide) (by kernel_rfl) (⟨(Below.refl _ _).drew, hIB⟩) (fun hHeld => ?_)
        refine wpAnyH_take (i := 0) (v := ?_) rfl (by kernel_rfl) (by kernel_rfl) (by kernel_rfl) (fun _ _ _ h => h) (Or.inl ⟨by rfl, ?_⟩) (by assumption) ?_
        rotate_left
        · intro w hSw
          (try dsimp only at hSw)
          go_simp
          (try with_reducible rfl)
        (try simp only [Act.put, List.setIfInBounds_toArray, List.set_cons_zero, List.set_cons_succ])
        refine wpAnyH_take (i := 1) (v := ?_) rfl (by kernel_rfl) (by kernel_rfl) (by kernel_rfl) (fun _ _ _ h => h) (Or.inl ⟨by rfl, ?_⟩) (by assumption) ?_
        rotate_left
        · intro w hSw
          (try dsimp only at hSw)
          go_simp
          (try with_reducible rfl)
        (try simp only [Act.put, List.setIfInBounds_toArray, List.set_cons_zero, List.set_cons_succ])
        refine wpAnyH_take (i := 2) (v := ?_) rfl (by kernel_rfl) (by kernel_rfl) (by kernel_rfl) (fun _ _ _ h => h) (Or.inl ⟨by rfl, ?_⟩) (by assumption) ?_
        rotate_left
        · intro w hSw
          (try dsimp only at hSw)
          go_simp
          (try with_reducible rfl)
        (try simp only [Act.put, List.setIfInBounds_toArray, List.set_cons_zero, List.set_cons_succ])
        refine wpAnyH_take (i := 3) (v := ?_) rfl (by kernel_rfl) (by kernel_rfl) (by kernel_rfl) (fun _ _ _ h => h) (Or.inl ⟨by rfl, ?_⟩) (by assumption) ?_
        rotate_left
        · intro w hSw
          (try dsimp only at hSw)
          go_simp
          (try with_reducible rfl)
        (try simp only [Act.put, List.setIfInBounds_toArray, List.set_cons_zero, List.set_cons_succ])
        refine wpAnyH_take (i := 4) (v := ?_) rfl (by kernel_rfl) (by kernel_rfl) (by kernel_rfl) (fun _ _ _ h => h) (Or.inl ⟨by rfl, ?_⟩) (by assumption) ?_
        rotate_left
        · intro w hSw
          (try dsimp only at hSw)
          go_simp
          (try with_reducible rfl)
        (try simp only [Act.put, List.setIfInBounds_toArray, List.set_cons_zero, List.set_cons_succ])
        refine wpAnyH_take (i := 5) (v := ?_) rfl (by kernel_rfl) (by kernel_rfl) (by kernel_rfl) (fun _ _ _ h => h) (Or.inl ⟨by rfl, ?_⟩) (by assumption) ?_
        rotate_left
        · intro w hSw
          (try dsimp only at hSw)
          go_simp
          (try with_reducible rfl)
        (try simp only [Act.put, List.setIfInBounds_toArray, List.set_cons_zero, List.set_cons_succ])
        refine wpAnyH_take (i := 6) (v := ?_) rfl (by kernel_rfl) (by kernel_rfl) (by kernel_rfl) (fun _ _ _ h => h) (Or.inl ⟨by rfl, ?_⟩) (by assumption) ?_
        rotate_left
        · intro w hSw
          (try dsimp only at hSw)
          go_simp
          (try with_reducible rfl)
        (try simp only [Act.put, List.setIfInBounds_toArray, List.set_cons_zero, List.set_cons_succ])
        refine wpAnyH_take (i := 7) (v := undef) rfl (by kernel_rfl) (by kernel_rfl) (by kernel_rfl) (fun _ _ _ h => h) (Or.inr ⟨by kernel_rfl, rfl⟩) (by assumption) ?_
        (try simp only [Act.put, List.setIfInBounds_toArray, List.set_cons_zero, List.set_cons_succ])
        refine wpAnyH_take (i := 8) (v := undef) rfl (by kernel_rfl) (by kernel_rfl) (by kernel_rfl) (fun _ _ _ h => h) (Or.inr ⟨by kernel_rfl, rfl⟩) (by assumption) ?_
        (try simp only [Act.put, List.setIfInBounds_toArray, List.set_cons_zero, List.set_cons_succ])
        refine wpAnyH_take (i := 9) (v := undef) rfl (by kernel_rfl) (by kernel_rfl) (by kernel_rfl) (fun _ _ _ h => h) (Or.inr ⟨by kernel_rfl, rfl⟩) (by assumption) ?_
        (try simp only [Act.put, List.setIfInBounds_toArray, List.set_cons_zero, List.set_cons_succ])
        refine wpAnyH_take (i := 10) (v := undef) rfl (by kernel_rfl) (by kernel_rfl) (by kernel_rfl) (fun _ _ _ h => h) (Or.inr ⟨by kernel_rfl, rfl⟩) (by assumption) ?_
        (try simp only [Act.put, List.setIfInBounds_toArray, List.set_cons_zero, List.set_cons_succ])
        refine wpAnyH_take (i := 11) (v := ?_) rfl (by kernel_rfl) (by kernel_rfl) (by kernel_rfl) (fun _ _ _ h => h) (Or.inl ⟨by rfl, ?_⟩) (by assumption) ?_
        rotate_left
        · intro w hSw
          (try dsimp only at hSw)
          go_simp
          (try with_reducible rfl)
        (try simp only [Act.put, List.setIfInBounds_toArray, List.set_cons_zero, List.set_cons_succ])
        refine wpAnyH_ready (rs := [12]) (by kernel_rfl) (by simp) ?_
        refine AllReadyH.cons rfl (fun K hK => ?_) AllReadyH.nil
        go_simp
        go_at_call 30; refine (HZ.out _).mono ?_; rintro e w4 ⟨rfl, hb4⟩
        refine hK.out _ _ (sy_it0 hb4 (by assumption) hz3) (fun hHeld => ?_)
        clear hK K
        (try simp only [Act.put, List.setIfInBounds_toArray, List.set_cons_zero, List.set_cons_succ])
        refine wpAnyH_take (i := 13) (v := ?_) rfl (by kernel_rfl) (by kernel_rfl) (by kernel_rfl) (fun _ _ _ h => h) (Or.inl ⟨by rfl, ?_⟩) (by assumption) ?_
        rotate_left
        · intro w hSw
          (try dsimp only at hSw)
          go_simp
          (try with_reducible rfl)
        (try simp only [Act.put, List.setIfInBounds_toArray, List.set_cons_zero, List.set_cons_succ])
        refine wpAnyH_take (i := 14) (v := ?_) rfl (by kernel_rfl) (by kernel_rfl) (by kernel_rfl) (fun _ _ _ h => h) (Or.inl ⟨by rfl, ?_⟩) (by assumption) ?_
        rotate_left
        · intro w hSw
          (try dsimp only at hSw)
          go_simp
          (try with_reducible rfl)
        (try simp only [Act.put, List.setIfInBounds_toArray, List.set_cons_zero, List.set_cons_succ])
        refine wpAnyH_done (by kernel_rfl) ?_ _
        rename_i hH
        go_wp2
        refine ⟨⟨k + 1, by rw [HNext.out], by simp, by omega, ?_, hB3.trans (hHeld.1.mono hB3.size)⟩, by simp [intOf]; omega⟩
        rw [HLat.out]
        exact hown'.kept (grown_below hHeld.1) (Classical.em _)
    · have hge : ¬ (k : Int) < (n : Int) := by omega
      obtain rfl : k = n := by omega
      go_wp2_with (at_builtin; refine wpList_append_own _ rfl _ _ 46 rfl w.heap.size 3 i0 (.int .i64 0) 1 8 Try.underlying46 hi hz0 hz1 hz2 rfl (by decide) _ _ _ rfl (hrow.alloc _) ⟨wr.heap.size, 0, none⟩ 1 1 [.int .i64 A] rfl rfl (cell_one_new _ _ _) (by simp [Value.oneCell']) (by unfold maxLen; omega) (by omega) (by have := hB.size; simp; omega) ?_; intro v' w3 hown' hgrow3 hnil3)
      go_ret
      exact ⟨_, rfl, by rw [HLat.out]; exact hown', (hB.alloc hB.size _).grown hgrow3 (by have := hB.size; simp; omega) (own_ge hrow)⟩
end Go.Proofs.Ytplfpaffjaldoaa
