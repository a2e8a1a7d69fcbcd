/-
 Package machine: what moved and access return.
-/
import Derived.Test.YthciobjklhkkcaaGreatMachD
import Derived.Test.YthciobjklhkkcaaGreatP09a
namespace Go.Proofs.YthciobjklhkkcaaGreat
open Go.ChangeShapes Go.WideShapes Go.ChangeAt Go.RowKit
set_option maxHeartbeats 4000000
set_option maxRecDepth 10000
set_option linter.unusedVariables false
set_option linter.unusedSimpArgs false

/-- an access in a block, and a machine's memory -/
structure Mv (W : World) (n b p : Nat) (ad sz vl : Int) (wr : Bool) : Prop where
 blk : Blk W n 137 4 #[.int .i64 ad, .int .i64 sz, .int .i64 vl, .bool wr]
 mp : W.cell? ⟨b, 2, none⟩ = some (.pointer (some ⟨p, 0, none⟩))
section
variable {W W' : World} {n b p : Nat} {ad sz vl : Int} {wr : Bool}
theorem Mv.lt (h : Mv W n b p ad sz vl wr) : b < W.heap.size := cell_lt h.mp
theorem Mv.kept (h : Mv W n b p ad sz vl wr) (hb : Below W.heap.size W W') : Mv W' n b p ad sz vl wr := ⟨h.blk.kept hb, by rw [hb.cell (p := ⟨b, 2, none⟩) h.lt]; exact h.mp⟩
theorem Mv.rest {X : Nat → Prop} (h : Mv W n b p ad sz vl wr) (hr : Rest X W W') (hn : ¬ X n) (hb : ¬ X b) : Mv W' n b p ad sz vl wr := ⟨h.blk.rest hr hn, by rw [hr.cell (p := ⟨b, 2, none⟩) h.lt hb]; exact h.mp⟩
theorem Mv.cells (h : Mv W n b p ad sz vl wr) : W.cell? ⟨n, 0, none⟩ = some (.int .i64 ad) ∧ W.cell? ⟨n, 1, none⟩ = some (.int .i64 sz) ∧ W.cell? ⟨n, 2, none⟩ = some (.int .i64 vl) ∧ W.cell? ⟨n, 3, none⟩ = some (.bool wr) := ⟨h.blk.cell 0, h.blk.cell 1, h.blk.cell 2, h.blk.cell 3⟩
end
abbrev MvC (W : World) (n b p : Nat) (ad sz vl : Int) (wr : Bool) : Prop := W.cell? ⟨n, 0, none⟩ = some (.int .i64 ad) ∧ W.cell? ⟨n, 1, none⟩ = some (.int .i64 sz) ∧ W.cell? ⟨n, 2, none⟩ = some (.int .i64 vl) ∧ W.cell? ⟨n, 3, none⟩ = some (.bool wr) ∧ W.cell? ⟨b, 2, none⟩ = some (.pointer (some ⟨p, 0, none⟩))
theorem Mv.conj {W : World} {n b p : Nat} {ad sz vl : Int} {wr : Bool} (h : Mv W n b p ad sz vl wr) : MvC W n b p ad sz vl wr := ⟨h.cells.1, h.cells.2.1, h.cells.2.2.1, h.cells.2.2.2, h.mp⟩
theorem mvc_rest {X : Nat → Prop} {W W' : World} {n b p : Nat} {ad sz vl : Int} {wr : Bool} (h : MvC W n b p ad sz vl wr) (hr : Rest X W W') (hn : ¬ X n) (hb : ¬ X b) : MvC W' n b p ad sz vl wr := by
 obtain ⟨h0, h1, h2, h3, h4⟩ := h
 have l0 := cell_lt h0
 have l4 := cell_lt h4
 exact ⟨by rw [hr.cell (p := ⟨n, 0, none⟩) l0 hn]; exact h0, by rw [hr.cell (p := ⟨n, 1, none⟩) l0 hn]; exact h1, by rw [hr.cell (p := ⟨n, 2, none⟩) l0 hn]; exact h2, by rw [hr.cell (p := ⟨n, 3, none⟩) l0 hn]; exact h3, by rw [hr.cell (p := ⟨b, 2, none⟩) l4 hb]; exact h4⟩
theorem moved_store (b : Nat) (l : My.Loc) (s : My.St) (hd : Int) (m : Mc.M) (w : World) (ad sz vl : Int) (hm : Hid (MacAt w b l s hd m)) (ha : Hid (ad ≤ 9223372036854775807)) :
  Calls Tryz.prog 113 #[.pointer (some ⟨b, 0, none⟩), .agg #[.int .i64 ad, .int .i64 sz, .int .i64 vl, .bool true]] w fun e w' => e = .returned (.tuple #[.int .i64 0, .int .i64 (My.fe s ad sz true)]) ∧ (MacAt w' b l s hd { m with mem := if My.fe s ad sz true = 0 then My.put m.mem ad sz vl else m.mem } ∧ Rest l.own w w') := by
 have H0 : Hid (Mv (w.alloc (.cells #[.int .i64 ad, .int .i64 sz, .int .i64 vl, .bool true] 137)) w.heap.size b l.p ad sz vl true ∧ MacAt (w.alloc (.cells #[.int .i64 ad, .int .i64 sz, .int .i64 vl, .bool true] 137)) b l s hd m ∧ Rest l.own w (w.alloc (.cells #[.int .i64 ad, .int .i64 sz, .int .i64 vl, .bool true] 137)) ∧ ¬ l.own w.heap.size ∧ ¬ l.own b) :=
  Lib.hid ⟨⟨Blk.new' _ _ _ _ rfl rfl, (hm.out.alloc _).memp⟩, hm.out.alloc _, Rest.of ((Below.refl _ _).alloc (Nat.le_refl _) _), fun h => (hm.out.newer (Nat.le_refl _)).1 (.inr h), hm.out.np.2.2.2⟩
 clear hm
 have C := Lib.hid (fun (W : World) (h : MacAt W b l s hd m) => store_any l s m.mem ad sz vl W h.mem h.good ha.out)
 generalize (if My.fe s ad sz true = 0 then My.put m.mem ad sz vl else m.mem) = M' at *
 generalize My.fe s ad sz true = E at *
 clear ha
 obtain ⟨W, hW⟩ : ∃ W, w.alloc (.cells #[.int .i64 ad, .int .i64 sz, .int .i64 vl, .bool true] 137) = W := ⟨_, rfl⟩
 rw [hW] at H0
 obtain ⟨a0, a1, a2, a3⟩ := H0.out.1.cells
 have a4 := H0.out.1.mp
 go_enter Tryz.func113, Tryz.ntmps113
 go_wp2
 have HD : MvC W.drew w.heap.size b l.p ad sz vl true := (H0.out.1.kept (Below.refl _ _).drew).conj
 have HM := Lib.hid (H0.out.2.1.drew)
 have HR := Lib.hid (H0.out.2.2.1.trans (Rest.of (Below.refl _ _).drew))
 have HN := Lib.hid H0.out.2.2.2
 clear H0 a0 a1 a2 a3 a4 hW
 generalize w.heap.size = n at *
 go_region_held3 (fun wx => MvC wx n b l.p ad sz vl true)
  (first | assumption | exact mvc_rest (by assumption) (by assumption) HN.out.1 HN.out.2)
  (first | (go_at_call 146; refine (C.out _ HM.out).mono ?_; rintro e w1 ⟨rfl, hM1, hR1⟩))
 rename_i hH
 clear hH HD C
 go_wp2
 exact bodyPost_ret (v := .tuple #[.int .i64 0, .int .i64 E]) (by simp [results, Tryz.results113, go_sem]) rfl ⟨rfl, HM.out.memory (Rest.trans (Rest.refl _ _) hR1) hM1, HR.out.trans hR1⟩
theorem moved_load (b : Nat) (l : My.Loc) (s : My.St) (hd : Int) (m : Mc.M) (w : World) (ad sz vl : Int) (hm : Hid (MacAt w b l s hd m)) (ha : Hid (ad ≤ 9223372036854775807)) :
  Calls Tryz.prog 113 #[.pointer (some ⟨b, 0, none⟩), .agg #[.int .i64 ad, .int .i64 sz, .int .i64 vl, .bool false]] w fun e w' => e = .returned (.tuple #[.int .i64 (My.load s m.mem ad sz).1, .int .i64 (My.load s m.mem ad sz).2]) ∧ Below w.heap.size w w' := by
 have H0 : Hid (Mv (w.alloc (.cells #[.int .i64 ad, .int .i64 sz, .int .i64 vl, .bool false] 137)) w.heap.size b l.p ad sz vl false ∧ MacAt (w.alloc (.cells #[.int .i64 ad, .int .i64 sz, .int .i64 vl, .bool false] 137)) b l s hd m ∧ Below w.heap.size w (w.alloc (.cells #[.int .i64 ad, .int .i64 sz, .int .i64 vl, .bool false] 137))) :=
  Lib.hid ⟨⟨Blk.new' _ _ _ _ rfl rfl, (hm.out.alloc _).memp⟩, hm.out.alloc _, (Below.refl _ _).alloc (Nat.le_refl _) _⟩
 clear hm
 have C := Lib.hid (fun (W : World) (h : MacAt W b l s hd m) => load_any l s m.mem ad sz W h.mem h.good ha.out)
 generalize (My.load s m.mem ad sz).1 = V1 at *
 generalize (My.load s m.mem ad sz).2 = V2 at *
 clear ha
 obtain ⟨W, hW⟩ : ∃ W, w.alloc (.cells #[.int .i64 ad, .int .i64 sz, .int .i64 vl, .bool false] 137) = W := ⟨_, rfl⟩
 rw [hW] at H0
 obtain ⟨a0, a1, a2, a3⟩ := H0.out.1.cells
 have a4 := H0.out.1.mp
 go_enter Tryz.func113, Tryz.ntmps113
 go_wp2
 have HD : MvC W.drew w.heap.size b l.p ad sz vl false := (H0.out.1.kept (Below.refl _ _).drew).conj
 have HM := Lib.hid (H0.out.2.1.drew)
 have HR := Lib.hid (H0.out.2.2.drew)
 clear H0 a0 a1 a2 a3 a4 hW
 obtain ⟨n, hn⟩ : ∃ n, w.heap.size = n := ⟨_, rfl⟩
 rw [hn] at HD HR ⊢
 go_region_held3 (fun wx => MvC wx n b l.p ad sz vl false)
  (first | assumption | exact mvc_rest (X := fun _ => False) (by assumption) (Rest.of (by assumption)) id id)
  (first | (go_at_call 41; refine (C.out _ HM.out).mono ?_; rintro e w1 ⟨rfl, hR1⟩))
 rename_i hH
 clear hH HD C
 go_wp2
 have hz := HR.out.size
 rw [hn] at hz
 exact bodyPost_ret (v := .tuple #[.int .i64 V1, .int .i64 V2]) (by simp [results, Tryz.results113, go_sem]) rfl ⟨rfl, by rw [hn]; exact HR.out.trans (hR1.mono hz)⟩
end Go.Proofs.YthciobjklhkkcaaGreat
