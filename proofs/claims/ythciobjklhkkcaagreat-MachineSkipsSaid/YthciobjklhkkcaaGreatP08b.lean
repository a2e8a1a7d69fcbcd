/-
Package image: what Parse returns, and the document's Parse.
-/
import Derived.Test.YthciobjklhkkcaaGreatP07b
namespace Go.Proofs.YthciobjklhkkcaaGreat
open Go.ChangeShapes Go.WideShapes Go.ChangeAt Go.RowKit
set_option maxHeartbeats 8000000
set_option maxRecDepth 100000
set_option linter.unusedVariables false
set_option linter.unusedSimpArgs false

theorem iread_lit (s : ByteArray) (r h i o l m : Int) (w : World) (hs : Hid (64 ≤ s.size)) (hR : Hid (Im.read s 2 = ⟨r, h, i, o, l, m⟩)) :
  Calls Tryz.prog 47 #[.string s] w fun e w' => e = .returned (.agg #[.int .i64 r, .int .i64 h, .int .i64 i, .int .i64 o, .int .i64 l, .int .i64 m]) ∧ Below w.heap.size w w' := by
 have := iread_any s w hs
 rw [hR.out] at this
 exact this
theorem hd_step {W wx w' : World} {b : Nat} {r h i o l m : Int} (hc : Below W.heap.size W wx ∧ Im.HdAt wx b r h i o l m) (hb : Below wx.heap.size wx w') : Below W.heap.size W w' ∧ Im.HdAt w' b r h i o l m :=
 ⟨hc.1.trans (hb.mono hc.1.size), hc.2.kept hb⟩
/-- a head's block, open to stores -/
def Im.Open (W : World) (b : Nat) (r h i o l m : Int) : Prop := Im.HdAt W b r h i o l m ∧ ∀ j, W.frozen? ⟨b, j, none⟩ = false
theorem Im.Open.new (w : World) (r h i o l m : Int) (t : TypeId) : Im.Open (w.alloc (.cells #[.int .i64 r, .int .i64 h, .int .i64 i, .int .i64 o, .int .i64 l, .int .i64 m] t)) w.heap.size r h i o l m :=
 ⟨Im.HdAt.new w r h i o l m t, fun j => by rw [World.frozen?, heap_alloc_new]; rfl⟩
theorem Im.Open.kept {W W' : World} {b : Nat} {r h i o l m : Int} (hc : Im.Open W b r h i o l m) (hb : Below W.heap.size W W') : Im.Open W' b r h i o l m := by
 have hlt : b < W.heap.size := cell_lt hc.1.1
 exact ⟨hc.1.kept hb, fun j => by rw [hb.frozen (p := ⟨b, j, none⟩) hlt]; exact hc.2 j⟩
theorem Im.below6 {B : Nat} {w0 w : World} (h : Below B w0 w) (b : Nat) (hb : B ≤ b) (v0 v1 v2 v3 v4 v5 : Value) :
  Below B w0 ((((((w.setCell ⟨b, 0, none⟩ v0).setCell ⟨b, 1, none⟩ v1).setCell ⟨b, 2, none⟩ v2).setCell ⟨b, 3, none⟩ v3).setCell ⟨b, 4, none⟩ v4).setCell ⟨b, 5, none⟩ v5) :=
 (((((h.setCell (p := ⟨b, 0, none⟩) hb v0).setCell (p := ⟨b, 1, none⟩) hb v1).setCell (p := ⟨b, 2, none⟩) hb v2).setCell (p := ⟨b, 3, none⟩) hb v3).setCell (p := ⟨b, 4, none⟩) hb v4).setCell (p := ⟨b, 5, none⟩) hb v5
theorem parse_short (s : ByteArray) (w : World) (h : s.size < 64) :
  Calls Tryz.prog 30 #[.string s] w fun e w' => e = .returned (.tuple #[.agg #[.int .i64 0, .int .i64 0, .int .i64 0, .int .i64 0, .int .i64 0, .int .i64 0], .int .i64 3]) ∧ Below w.heap.size w w' := by
 have h' : (s.size : Int) < 64 := by omega
 go_enter Tryz.func30, Tryz.ntmps30
 go_wp2
 exact bodyPost_ret (v := .tuple #[.agg #[.int .i64 0, .int .i64 0, .int .i64 0, .int .i64 0, .int .i64 0, .int .i64 0], .int .i64 3]) (by simp [results, Tryz.results30, go_sem]) rfl ⟨rfl, by go_grown⟩
theorem parse_bad (s : ByteArray) (r h i o l m E : Int) (w : World) (hs : Hid (64 ≤ s.size)) (hR : Hid (Im.read s 2 = ⟨r, h, i, o, l, m⟩)) (he : Hid (Im.err ⟨r, h, i, o, l, m⟩ (s.size : Int) = E)) (hz : ¬ E = 0) :
  Calls Tryz.prog 30 #[.string s] w fun e w' => e = .returned (.tuple #[.agg #[.int .i64 0, .int .i64 0, .int .i64 0, .int .i64 0, .int .i64 0, .int .i64 0], .int .i64 4]) ∧ Below w.heap.size w w' := by
 have h' : ¬ (s.size : Int) < 64 := by have := hs.out; omega
 have hz' : (E != 0) = true := by simpa using hz
 go_enter Tryz.func30, Tryz.ntmps30
 go_wp2_with (go_at_call 47; refine (iread_lit s r h i o l m _ hs hR).mono ?_; rintro e w1 ⟨rfl, hb1⟩)
 have HO1 := Lib.hid (((Im.Open.new w 0 0 0 0 0 0 84).kept hb1).kept (W' := w1.alloc (.cells #[.int .i64 r, .int .i64 h, .int .i64 i, .int .i64 o, .int .i64 l, .int .i64 m] 84)) ((Below.refl _ _).alloc (Nat.le_refl _) _))
 have HB1 := Lib.hid ((((Below.refl w.heap.size w).alloc (Nat.le_refl _) _).trans (hb1.mono (by simp))).alloc (w := w1) (by have := hb1.size; simp at this; omega) (.cells #[.int .i64 r, .int .i64 h, .int .i64 i, .int .i64 o, .int .i64 l, .int .i64 m] 84))
 have HH1 := Lib.hid (Im.HdAt.new w1 r h i o l m 84)
 have HW1 : Hid (w1.heap.size < (w1.alloc (.cells #[.int .i64 r, .int .i64 h, .int .i64 i, .int .i64 o, .int .i64 l, .int .i64 m] 84)).heap.size) := Lib.hid (by simp)
 obtain ⟨b1, hbl1⟩ : ∃ b, w1.heap.size = b := ⟨_, rfl⟩
 rw [hbl1] at HH1 HW1 ⊢
 clear hb1
 generalize w1.alloc (.cells #[.int .i64 r, .int .i64 h, .int .i64 i, .int .i64 o, .int .i64 l, .int .i64 m] 84) = w2 at HO1 HB1 HH1 HW1 ⊢
 clear hbl1 w1
 refine wp_region_held_drew (S := fun wx => Below w2.heap.size w2 wx ∧ Im.HdAt wx b1 r h i o l m) (by kernel_rfl) (⟨(Below.refl _ _).drew, HH1.out⟩) (fun hHeld => ?_)
 refine wpAnyH_take (i := 0) (v := ?_) rfl (by kernel_rfl) (by kernel_rfl) (by kernel_rfl) (fun _ _ _ h => h) (Or.inl ⟨by rfl, ?_⟩) (by assumption) ?_
 rotate_left
 ·intro w hSw
  (try dsimp only at hSw)
  go_simp
  (try with_reducible rfl)
 (try simp only [Act.put, List.setIfInBounds_toArray, List.set_cons_zero, List.set_cons_succ])
 refine wpAnyH_take (i := 1) (v := ?_) rfl (by kernel_rfl) (by kernel_rfl) (by kernel_rfl) (fun _ _ _ h => h) (Or.inl ⟨by rfl, ?_⟩) (by assumption) ?_
 rotate_left
 ·intro w hSw
  (try dsimp only at hSw)
  go_simp
  (try with_reducible rfl)
 (try simp only [Act.put, List.setIfInBounds_toArray, List.set_cons_zero, List.set_cons_succ])
 refine wpAnyH_take (i := 2) (v := ?_) rfl (by kernel_rfl) (by kernel_rfl) (by kernel_rfl) (fun _ _ _ h => h) (Or.inl ⟨by rfl, ?_⟩) (by assumption) ?_
 rotate_left
 ·intro w hSw
  (try dsimp only at hSw)
  go_simp
  (try with_reducible rfl)
 (try simp only [Act.put, List.setIfInBounds_toArray, List.set_cons_zero, List.set_cons_succ])
 refine wpAnyH_ready (rs := [3]) (by kernel_rfl) (by simp) ?_
 refine AllReadyH.cons rfl (fun K hK => ?_) AllReadyH.nil
 go_simp
 go_at_call 48; refine (icheck_lit _ _ _ _ _ _ _ _ _ he).mono ?_; rintro e w3 ⟨rfl, hb3⟩
 refine hK.out _ _ (hd_step (by assumption) (by assumption)) (fun hHeld => ?_)
 clear hK K
 (try simp only [Act.put, List.setIfInBounds_toArray, List.set_cons_zero, List.set_cons_succ])
 refine wpAnyH_take (i := 4) (v := ?_) rfl (by kernel_rfl) (by kernel_rfl) (by kernel_rfl) (fun _ _ _ h => h) (Or.inl ⟨by rfl, ?_⟩) (by assumption) ?_
 rotate_left
 ·intro w hSw
  (try dsimp only at hSw)
  go_simp
  (try with_reducible rfl)
 (try simp only [Act.put, List.setIfInBounds_toArray, List.set_cons_zero, List.set_cons_succ])
 refine wpAnyH_take (i := 5) (v := ?_) rfl (by kernel_rfl) (by kernel_rfl) (by kernel_rfl) (fun _ _ _ h => h) (Or.inl ⟨by rfl, ?_⟩) (by assumption) ?_
 rotate_left
 ·intro w hSw
  (try dsimp only at hSw)
  go_simp
  (try with_reducible rfl)
 (try simp only [Act.put, List.setIfInBounds_toArray, List.set_cons_zero, List.set_cons_succ])
 refine wpAnyH_take (i := 6) (v := undef) rfl (by kernel_rfl) (by kernel_rfl) (by kernel_rfl) (fun _ _ _ h => h) (Or.inr ⟨by kernel_rfl, rfl⟩) (by assumption) ?_
 (try simp only [Act.put, List.setIfInBounds_toArray, List.set_cons_zero, List.set_cons_succ])
 refine wpAnyH_take (i := 7) (v := undef) rfl (by kernel_rfl) (by kernel_rfl) (by kernel_rfl) (fun _ _ _ h => h) (Or.inr ⟨by kernel_rfl, rfl⟩) (by assumption) ?_
 (try simp only [Act.put, List.setIfInBounds_toArray, List.set_cons_zero, List.set_cons_succ])
 refine wpAnyH_take (i := 8) (v := undef) rfl (by kernel_rfl) (by kernel_rfl) (by kernel_rfl) (fun _ _ _ h => h) (Or.inr ⟨by kernel_rfl, rfl⟩) (by assumption) ?_
 (try simp only [Act.put, List.setIfInBounds_toArray, List.set_cons_zero, List.set_cons_succ])
 refine wpAnyH_take (i := 9) (v := undef) rfl (by kernel_rfl) (by kernel_rfl) (by kernel_rfl) (fun _ _ _ h => h) (Or.inr ⟨by kernel_rfl, rfl⟩) (by assumption) ?_
 (try simp only [Act.put, List.setIfInBounds_toArray, List.set_cons_zero, List.set_cons_succ])
 refine wpAnyH_take (i := 10) (v := undef) rfl (by kernel_rfl) (by kernel_rfl) (by kernel_rfl) (fun _ _ _ h => h) (Or.inr ⟨by kernel_rfl, rfl⟩) (by assumption) ?_
 (try simp only [Act.put, List.setIfInBounds_toArray, List.set_cons_zero, List.set_cons_succ])
 refine wpAnyH_take (i := 11) (v := ?_) rfl (by kernel_rfl) (by kernel_rfl) (by kernel_rfl) (fun _ _ _ h => h) (Or.inl ⟨by rfl, ?_⟩) (by assumption) ?_
 rotate_left
 ·intro w hSw
  (try dsimp only at hSw)
  go_simp
  (try with_reducible rfl)
 (try simp only [Act.put, List.setIfInBounds_toArray, List.set_cons_zero, List.set_cons_succ])
 refine wpAnyH_done (by kernel_rfl) ?_ _
 have HO2 := Lib.hid (HO1.out.kept hHeld.1)
 have HB2 := Lib.hid (below_on HB1.out hHeld.1 HB1.out.size)
 have ho := HO2.out.2
 obtain ⟨⟨c0, c1, c2, c3, c4, c5⟩, -⟩ := HO2.out
 have HL := Lib.hid hHeld
 clear hHeld
 go_wp2
 exact bodyPost_ret (v := .tuple #[.agg #[.int .i64 0, .int .i64 0, .int .i64 0, .int .i64 0, .int .i64 0, .int .i64 0], .int .i64 4]) (by simp [results, Tryz.results30, go_sem, c0, c1, c2, c3, c4, c5]) rfl ⟨rfl, Im.below6 HB2.out _ (Nat.le_refl _) _ _ _ _ _ _⟩
theorem parse_other (s : ByteArray) (r h i o l m : Int) (w : World) (hs : Hid (64 ≤ s.size)) (hm : s.size ≤ 600000) (hR : Hid (Im.read s 2 = ⟨r, h, i, o, l, m⟩)) (he : Hid (Im.err ⟨r, h, i, o, l, m⟩ (s.size : Int) = 0)) (R T : ByteArray) (hF : Hid (Im.F ⟨r, h, i, o, l, m⟩ = R)) (hT : Hid (s.extract 0 64 = T)) (hne : (R.toList == T.toList) = false) :
  Calls Tryz.prog 30 #[.string s] w fun e w' => e = .returned (.tuple #[.agg #[.int .i64 0, .int .i64 0, .int .i64 0, .int .i64 0, .int .i64 0, .int .i64 0], .int .i64 4]) ∧ Below w.heap.size w w' := by
 have h' : ¬ (s.size : Int) < 64 := by have := hs.out; omega
 have HBD := Lib.hid (Im.bds he.out)
 have hsl : ∀ w : World, (Instr.slice 9 (.string s) none (some (.int .i64 64)) none).run Tryz.prog w = .ok (.string T) w := fun w => by rw [run_slice_string_h w 9 s Tryz.underlying9 .i64 64 (by decide) (by have := hs.out; omega)]; exact congrArg (fun t => Result.ok (Value.string t) w) hT.out
 go_enter Tryz.func30, Tryz.ntmps30
 go_wp2_with (go_at_call 47; refine (iread_lit s r h i o l m _ hs hR).mono ?_; rintro e w1 ⟨rfl, hb1⟩)
 have HO1 := Lib.hid (((Im.Open.new w 0 0 0 0 0 0 84).kept hb1).kept (W' := w1.alloc (.cells #[.int .i64 r, .int .i64 h, .int .i64 i, .int .i64 o, .int .i64 l, .int .i64 m] 84)) ((Below.refl _ _).alloc (Nat.le_refl _) _))
 have HB1 := Lib.hid ((((Below.refl w.heap.size w).alloc (Nat.le_refl _) _).trans (hb1.mono (by simp))).alloc (w := w1) (by have := hb1.size; simp at this; omega) (.cells #[.int .i64 r, .int .i64 h, .int .i64 i, .int .i64 o, .int .i64 l, .int .i64 m] 84))
 have HH1 := Lib.hid (Im.HdAt.new w1 r h i o l m 84)
 have HW1 : Hid (w1.heap.size < (w1.alloc (.cells #[.int .i64 r, .int .i64 h, .int .i64 i, .int .i64 o, .int .i64 l, .int .i64 m] 84)).heap.size) := Lib.hid (by simp)
 obtain ⟨b1, hbl1⟩ : ∃ b, w1.heap.size = b := ⟨_, rfl⟩
 rw [hbl1] at HH1 HW1 ⊢
 clear hb1
 generalize w1.alloc (.cells #[.int .i64 r, .int .i64 h, .int .i64 i, .int .i64 o, .int .i64 l, .int .i64 m] 84) = w2 at HO1 HB1 HH1 HW1 ⊢
 clear hbl1 w1
 refine wp_region_held_drew (S := fun wx => Below w2.heap.size w2 wx ∧ Im.HdAt wx b1 r h i o l m) (by kernel_rfl) (⟨(Below.refl _ _).drew, HH1.out⟩) (fun hHeld => ?_)
 refine wpAnyH_take (i := 0) (v := ?_) rfl (by kernel_rfl) (by kernel_rfl) (by kernel_rfl) (fun _ _ _ h => h) (Or.inl ⟨by rfl, ?_⟩) (by assumption) ?_
 rotate_left
 ·intro w hSw
  (try dsimp only at hSw)
  go_simp
  (try with_reducible rfl)
 (try simp only [Act.put, List.setIfInBounds_toArray, List.set_cons_zero, List.set_cons_succ])
 refine wpAnyH_take (i := 1) (v := ?_) rfl (by kernel_rfl) (by kernel_rfl) (by kernel_rfl) (fun _ _ _ h => h) (Or.inl ⟨by rfl, ?_⟩) (by assumption) ?_
 rotate_left
 ·intro w hSw
  (try dsimp only at hSw)
  go_simp
  (try with_reducible rfl)
 (try simp only [Act.put, List.setIfInBounds_toArray, List.set_cons_zero, List.set_cons_succ])
 refine wpAnyH_take (i := 2) (v := ?_) rfl (by kernel_rfl) (by kernel_rfl) (by kernel_rfl) (fun _ _ _ h => h) (Or.inl ⟨by rfl, ?_⟩) (by assumption) ?_
 rotate_left
 ·intro w hSw
  (try dsimp only at hSw)
  go_simp
  (try with_reducible rfl)
 (try simp only [Act.put, List.setIfInBounds_toArray, List.set_cons_zero, List.set_cons_succ])
 refine wpAnyH_ready (rs := [3]) (by kernel_rfl) (by simp) ?_
 refine AllReadyH.cons rfl (fun K hK => ?_) AllReadyH.nil
 go_simp
 go_at_call 48; refine (icheck_lit _ _ _ _ _ _ _ _ _ he).mono ?_; rintro e w3 ⟨rfl, hb3⟩
 refine hK.out _ _ (hd_step (by assumption) (by assumption)) (fun hHeld => ?_)
 clear hK K
 (try simp only [Act.put, List.setIfInBounds_toArray, List.set_cons_zero, List.set_cons_succ])
 refine wpAnyH_take (i := 4) (v := ?_) rfl (by kernel_rfl) (by kernel_rfl) (by kernel_rfl) (fun _ _ _ h => h) (Or.inl ⟨by rfl, ?_⟩) (by assumption) ?_
 rotate_left
 ·intro w hSw
  (try dsimp only at hSw)
  go_simp
  (try with_reducible rfl)
 (try simp only [Act.put, List.setIfInBounds_toArray, List.set_cons_zero, List.set_cons_succ])
 refine wpAnyH_take (i := 5) (v := ?_) rfl (by kernel_rfl) (by kernel_rfl) (by kernel_rfl) (fun _ _ _ h => h) (Or.inl ⟨by rfl, ?_⟩) (by assumption) ?_
 rotate_left
 ·intro w hSw
  (try dsimp only at hSw)
  go_simp
  (try with_reducible rfl)
 (try simp only [Act.put, List.setIfInBounds_toArray, List.set_cons_zero, List.set_cons_succ])
 refine wpAnyH_take (i := 6) (v := ?_) rfl (by kernel_rfl) (by kernel_rfl) (by kernel_rfl) (fun _ _ _ h => h) (Or.inl ⟨by rfl, ?_⟩) (by assumption) ?_
 rotate_left
 ·intro w hSw
  (try dsimp only at hSw)
  go_simp
  (try with_reducible rfl)
 (try simp only [Act.put, List.setIfInBounds_toArray, List.set_cons_zero, List.set_cons_succ])
 refine wpAnyH_take (i := 8) (v := ?_) rfl (by kernel_rfl) (by kernel_rfl) (by kernel_rfl) (fun _ _ _ h => h) (Or.inl ⟨by rfl, ?_⟩) (by assumption) ?_
 rotate_left
 ·intro w hSw
  (try dsimp only at hSw)
  go_simp
  (try with_reducible rfl)
 (try simp only [Act.put, List.setIfInBounds_toArray, List.set_cons_zero, List.set_cons_succ])
 refine wpAnyH_take (i := 9) (v := ?_) rfl (by kernel_rfl) (by kernel_rfl) (by kernel_rfl) (fun _ _ _ h => h) (Or.inl ⟨by rfl, ?_⟩) (by assumption) ?_
 rotate_left
 ·intro w hSw
  (try dsimp only at hSw)
  go_simp
  (try with_reducible rfl)
 (try simp only [Act.put, List.setIfInBounds_toArray, List.set_cons_zero, List.set_cons_succ])
 refine wpAnyH_ready (rs := [7]) (by kernel_rfl) (by simp) ?_
 refine AllReadyH.cons rfl (fun K hK => ?_) AllReadyH.nil
 go_simp
 go_at_call 49; refine (front_lit _ _ _ _ _ _ _ _ HBD hF).mono ?_; rintro e w4 ⟨rfl, hb4⟩
 refine hK.out _ _ (hd_step (by assumption) (by assumption)) (fun hHeld => ?_)
 clear hK K
 (try simp only [Act.put, List.setIfInBounds_toArray, List.set_cons_zero, List.set_cons_succ])
 refine wpAnyH_take (i := 10) (v := ?_) rfl (by kernel_rfl) (by kernel_rfl) (by kernel_rfl) (fun _ _ _ h => h) (Or.inl ⟨by rfl, ?_⟩) (by assumption) ?_
 rotate_left
 ·intro w hSw
  (try dsimp only at hSw)
  go_simp
  (try with_reducible rfl)
 (try simp only [Act.put, List.setIfInBounds_toArray, List.set_cons_zero, List.set_cons_succ])
 refine wpAnyH_take (i := 11) (v := ?_) rfl (by kernel_rfl) (by kernel_rfl) (by kernel_rfl) (fun _ _ _ h => h) (Or.inl ⟨by rfl, ?_⟩) (by assumption) ?_
 rotate_left
 ·intro w hSw
  (try dsimp only at hSw)
  go_simp
  (try with_reducible rfl)
 (try simp only [Act.put, List.setIfInBounds_toArray, List.set_cons_zero, List.set_cons_succ])
 refine wpAnyH_done (by kernel_rfl) ?_ _
 have HO2 := Lib.hid (HO1.out.kept hHeld.1)
 have HB2 := Lib.hid (below_on HB1.out hHeld.1 HB1.out.size)
 have ho := HO2.out.2
 obtain ⟨⟨c0, c1, c2, c3, c4, c5⟩, -⟩ := HO2.out
 have HL := Lib.hid hHeld
 clear hHeld
 go_wp2
 exact bodyPost_ret (v := .tuple #[.agg #[.int .i64 0, .int .i64 0, .int .i64 0, .int .i64 0, .int .i64 0, .int .i64 0], .int .i64 4]) (by simp [results, Tryz.results30, go_sem, c0, c1, c2, c3, c4, c5]) rfl ⟨rfl, Im.below6 HB2.out _ (Nat.le_refl _) _ _ _ _ _ _⟩
theorem parse_ok (s : ByteArray) (r h i o l m : Int) (w : World) (hs : Hid (64 ≤ s.size)) (hm : s.size ≤ 600000) (hR : Hid (Im.read s 2 = ⟨r, h, i, o, l, m⟩)) (he : Hid (Im.err ⟨r, h, i, o, l, m⟩ (s.size : Int) = 0)) (R T : ByteArray) (hF : Hid (Im.F ⟨r, h, i, o, l, m⟩ = R)) (hT : Hid (s.extract 0 64 = T)) (hne : (R.toList == T.toList) = true) :
  Calls Tryz.prog 30 #[.string s] w fun e w' => e = .returned (.tuple #[.agg #[.int .i64 r, .int .i64 h, .int .i64 i, .int .i64 o, .int .i64 l, .int .i64 m], .int .i64 0]) ∧ Below w.heap.size w w' := by
 have h' : ¬ (s.size : Int) < 64 := by have := hs.out; omega
 have HBD := Lib.hid (Im.bds he.out)
 have hsl : ∀ w : World, (Instr.slice 9 (.string s) none (some (.int .i64 64)) none).run Tryz.prog w = .ok (.string T) w := fun w => by rw [run_slice_string_h w 9 s Tryz.underlying9 .i64 64 (by decide) (by have := hs.out; omega)]; exact congrArg (fun t => Result.ok (Value.string t) w) hT.out
 go_enter Tryz.func30, Tryz.ntmps30
 go_wp2_with (go_at_call 47; refine (iread_lit s r h i o l m _ hs hR).mono ?_; rintro e w1 ⟨rfl, hb1⟩)
 have HO1 := Lib.hid (((Im.Open.new w 0 0 0 0 0 0 84).kept hb1).kept (W' := w1.alloc (.cells #[.int .i64 r, .int .i64 h, .int .i64 i, .int .i64 o, .int .i64 l, .int .i64 m] 84)) ((Below.refl _ _).alloc (Nat.le_refl _) _))
 have HB1 := Lib.hid ((((Below.refl w.heap.size w).alloc (Nat.le_refl _) _).trans (hb1.mono (by simp))).alloc (w := w1) (by have := hb1.size; simp at this; omega) (.cells #[.int .i64 r, .int .i64 h, .int .i64 i, .int .i64 o, .int .i64 l, .int .i64 m] 84))
 have HH1 := Lib.hid (Im.HdAt.new w1 r h i o l m 84)
 have HW1 : Hid (w1.heap.size < (w1.alloc (.cells #[.int .i64 r, .int .i64 h, .int .i64 i, .int .i64 o, .int .i64 l, .int .i64 m] 84)).heap.size) := Lib.hid (by simp)
 obtain ⟨b1, hbl1⟩ : ∃ b, w1.heap.size = b := ⟨_, rfl⟩
 rw [hbl1] at HH1 HW1 ⊢
 clear hb1
 generalize w1.alloc (.cells #[.int .i64 r, .int .i64 h, .int .i64 i, .int .i64 o, .int .i64 l, .int .i64 m] 84) = w2 at HO1 HB1 HH1 HW1 ⊢
 clear hbl1 w1
 refine wp_region_held_drew (S := fun wx => Below w2.heap.size w2 wx ∧ Im.HdAt wx b1 r h i o l m) (by kernel_rfl) (⟨(Below.refl _ _).drew, HH1.out⟩) (fun hHeld => ?_)
 refine wpAnyH_take (i := 0) (v := ?_) rfl (by kernel_rfl) (by kernel_rfl) (by kernel_rfl) (fun _ _ _ h => h) (Or.inl ⟨by rfl, ?_⟩) (by assumption) ?_
 rotate_left
 ·intro w hSw
  (try dsimp only at hSw)
  go_simp
  (try with_reducible rfl)
 (try simp only [Act.put, List.setIfInBounds_toArray, List.set_cons_zero, List.set_cons_succ])
 refine wpAnyH_take (i := 1) (v := ?_) rfl (by kernel_rfl) (by kernel_rfl) (by kernel_rfl) (fun _ _ _ h => h) (Or.inl ⟨by rfl, ?_⟩) (by assumption) ?_
 rotate_left
 ·intro w hSw
  (try dsimp only at hSw)
  go_simp
  (try with_reducible rfl)
 (try simp only [Act.put, List.setIfInBounds_toArray, List.set_cons_zero, List.set_cons_succ])
 refine wpAnyH_take (i := 2) (v := ?_) rfl (by kernel_rfl) (by kernel_rfl) (by kernel_rfl) (fun _ _ _ h => h) (Or.inl ⟨by rfl, ?_⟩) (by assumption) ?_
 rotate_left
 ·intro w hSw
  (try dsimp only at hSw)
  go_simp
  (try with_reducible rfl)
 (try simp only [Act.put, List.setIfInBounds_toArray, List.set_cons_zero, List.set_cons_succ])
 refine wpAnyH_ready (rs := [3]) (by kernel_rfl) (by simp) ?_
 refine AllReadyH.cons rfl (fun K hK => ?_) AllReadyH.nil
 go_simp
 go_at_call 48; refine (icheck_lit _ _ _ _ _ _ _ _ _ he).mono ?_; rintro e w3 ⟨rfl, hb3⟩
 refine hK.out _ _ (hd_step (by assumption) (by assumption)) (fun hHeld => ?_)
 clear hK K
 (try simp only [Act.put, List.setIfInBounds_toArray, List.set_cons_zero, List.set_cons_succ])
 refine wpAnyH_take (i := 4) (v := ?_) rfl (by kernel_rfl) (by kernel_rfl) (by kernel_rfl) (fun _ _ _ h => h) (Or.inl ⟨by rfl, ?_⟩) (by assumption) ?_
 rotate_left
 ·intro w hSw
  (try dsimp only at hSw)
  go_simp
  (try with_reducible rfl)
 (try simp only [Act.put, List.setIfInBounds_toArray, List.set_cons_zero, List.set_cons_succ])
 refine wpAnyH_take (i := 5) (v := ?_) rfl (by kernel_rfl) (by kernel_rfl) (by kernel_rfl) (fun _ _ _ h => h) (Or.inl ⟨by rfl, ?_⟩) (by assumption) ?_
 rotate_left
 ·intro w hSw
  (try dsimp only at hSw)
  go_simp
  (try with_reducible rfl)
 (try simp only [Act.put, List.setIfInBounds_toArray, List.set_cons_zero, List.set_cons_succ])
 refine wpAnyH_take (i := 6) (v := ?_) rfl (by kernel_rfl) (by kernel_rfl) (by kernel_rfl) (fun _ _ _ h => h) (Or.inl ⟨by rfl, ?_⟩) (by assumption) ?_
 rotate_left
 ·intro w hSw
  (try dsimp only at hSw)
  go_simp
  (try with_reducible rfl)
 (try simp only [Act.put, List.setIfInBounds_toArray, List.set_cons_zero, List.set_cons_succ])
 refine wpAnyH_take (i := 8) (v := ?_) rfl (by kernel_rfl) (by kernel_rfl) (by kernel_rfl) (fun _ _ _ h => h) (Or.inl ⟨by rfl, ?_⟩) (by assumption) ?_
 rotate_left
 ·intro w hSw
  (try dsimp only at hSw)
  go_simp
  (try with_reducible rfl)
 (try simp only [Act.put, List.setIfInBounds_toArray, List.set_cons_zero, List.set_cons_succ])
 refine wpAnyH_take (i := 9) (v := ?_) rfl (by kernel_rfl) (by kernel_rfl) (by kernel_rfl) (fun _ _ _ h => h) (Or.inl ⟨by rfl, ?_⟩) (by assumption) ?_
 rotate_left
 ·intro w hSw
  (try dsimp only at hSw)
  go_simp
  (try with_reducible rfl)
 (try simp only [Act.put, List.setIfInBounds_toArray, List.set_cons_zero, List.set_cons_succ])
 refine wpAnyH_ready (rs := [7]) (by kernel_rfl) (by simp) ?_
 refine AllReadyH.cons rfl (fun K hK => ?_) AllReadyH.nil
 go_simp
 go_at_call 49; refine (front_lit _ _ _ _ _ _ _ _ HBD hF).mono ?_; rintro e w4 ⟨rfl, hb4⟩
 refine hK.out _ _ (hd_step (by assumption) (by assumption)) (fun hHeld => ?_)
 clear hK K
 (try simp only [Act.put, List.setIfInBounds_toArray, List.set_cons_zero, List.set_cons_succ])
 refine wpAnyH_take (i := 10) (v := ?_) rfl (by kernel_rfl) (by kernel_rfl) (by kernel_rfl) (fun _ _ _ h => h) (Or.inl ⟨by rfl, ?_⟩) (by assumption) ?_
 rotate_left
 ·intro w hSw
  (try dsimp only at hSw)
  go_simp
  (try with_reducible rfl)
 (try simp only [Act.put, List.setIfInBounds_toArray, List.set_cons_zero, List.set_cons_succ])
 refine wpAnyH_take (i := 11) (v := ?_) rfl (by kernel_rfl) (by kernel_rfl) (by kernel_rfl) (fun _ _ _ h => h) (Or.inl ⟨by rfl, ?_⟩) (by assumption) ?_
 rotate_left
 ·intro w hSw
  (try dsimp only at hSw)
  go_simp
  (try with_reducible rfl)
 (try simp only [Act.put, List.setIfInBounds_toArray, List.set_cons_zero, List.set_cons_succ])
 refine wpAnyH_done (by kernel_rfl) ?_ _
 have HO2 := Lib.hid (HO1.out.kept hHeld.1)
 have HB2 := Lib.hid (below_on HB1.out hHeld.1 HB1.out.size)
 have ho := HO2.out.2
 obtain ⟨⟨c0, c1, c2, c3, c4, c5⟩, -⟩ := HO2.out
 obtain ⟨d0, d1, d2, d3, d4, d5⟩ := hHeld.2
 have HL := Lib.hid hHeld
 clear hHeld
 go_wp2
 exact bodyPost_ret (v := .tuple #[.agg #[.int .i64 r, .int .i64 h, .int .i64 i, .int .i64 o, .int .i64 l, .int .i64 m], .int .i64 0]) (by simp [results, Tryz.results30, go_sem, c0, c1, c2, c3, c4, c5]) rfl ⟨rfl, Im.below6 HB2.out _ (Nat.le_refl _) _ _ _ _ _ _⟩
theorem Im.str_eq (a b : ByteArray) : (a.toList == b.toList) = decide (a = b) := by
 rw [ByteArray.toList_eq, ByteArray.toList_eq]
 by_cases h : a = b
 ·subst h; simp
 ·rw [decide_eq_false h]
  exact beq_eq_false_iff_ne.2 fun e => h (Im.list_ext e)
theorem Im.err_size {x : Im.Hd} {n : Int} (h : Im.err x n = 0) : n ≤ 262144 := by
 unfold Im.err at h
 split at h
 ·next h1 =>
  unfold Mm.err at h1
  split at h1
  ·split at h1
   ·next h2 => exact h2.2.2.2
   ·cases h1
  ·cases h1
 ·next h1 => exact absurd h h1
theorem parse_any (s : ByteArray) (w : World) :
  Calls Tryz.prog 30 #[.string s] w fun e w' => e = .returned (.tuple #[.agg #[.int .i64 (Im.parse s).1.r, .int .i64 (Im.parse s).1.h, .int .i64 (Im.parse s).1.i, .int .i64 (Im.parse s).1.o, .int .i64 (Im.parse s).1.l, .int .i64 (Im.parse s).1.m], .int .i64 (Im.parse s).2]) ∧ Below w.heap.size w w' := by
 by_cases h0 : s.size < 64
 ·have e : Im.parse s = (Im.zero, 3) := by unfold Im.parse; rw [if_pos h0]
  rw [e]
  exact parse_short s w h0
 ·rcases hx : Im.read s 2 with ⟨r, h, i, o, l, m⟩
  have hs : Hid (64 ≤ s.size) := Lib.hid (by omega)
  by_cases he : Im.err ⟨r, h, i, o, l, m⟩ (s.size : Int) = 0
  ·have hm : s.size ≤ 600000 := by
    have := Im.err_size he
    omega
   by_cases hF : Im.F ⟨r, h, i, o, l, m⟩ = s.extract 0 64
   ·have e : Im.parse s = (⟨r, h, i, o, l, m⟩, 0) := by
     unfold Im.parse; rw [if_neg h0, if_pos (by unfold Im.is; rw [hx]; exact ⟨he, hF⟩), hx]
    rw [e]
    exact parse_ok s r h i o l m w hs hm (Lib.hid hx) (Lib.hid he) _ _ (Lib.hid rfl) (Lib.hid rfl) (by rw [Im.str_eq, decide_eq_true hF])
   ·have e : Im.parse s = (Im.zero, 4) := by
     unfold Im.parse; rw [if_neg h0, if_neg (by unfold Im.is; rw [hx]; exact fun g => hF g.2)]
    rw [e]
    exact parse_other s r h i o l m w hs hm (Lib.hid hx) (Lib.hid he) _ _ (Lib.hid rfl) (Lib.hid rfl) (by rw [Im.str_eq, decide_eq_false hF])
  ·have e : Im.parse s = (Im.zero, 4) := by
    unfold Im.parse; rw [if_neg h0, if_neg (by unfold Im.is; rw [hx]; exact fun g => he g.1)]
   rw [e]
   exact parse_bad s r h i o l m _ w hs (Lib.hid hx) (Lib.hid rfl) he
end Go.Proofs.YthciobjklhkkcaaGreat
