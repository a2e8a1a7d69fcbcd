/-
 Package machine: what left returns.
-/
import Derived.Test.YthciobjklhkkcaaGreatMachO
namespace Go.Proofs.YthciobjklhkkcaaGreat
open Go.ChangeShapes Go.WideShapes Go.ChangeAt Go.RowKit
set_option maxHeartbeats 8000000
set_option maxRecDepth 10000
set_option linter.unusedVariables false
set_option linter.unusedSimpArgs false

abbrev resC (H : Bool) (a b c d e : Int) (x y z : ByteArray) : Array Value := #[.bool H, .int .i64 a, .int .i64 b, .int .i64 c, .int .i64 d, .int .i64 e, .string x, .string y, .string z]
theorem fits9 (H : Bool) (a b c d e : Int) (x y z : ByteArray) : Fits 9 (resC H a b c d e x y z) := ⟨rfl, by simp [resC, Value.oneCell']⟩
/-- a result in a block, the answer's block, a machine -/
structure Lf (w : World) (n : Nat) (W : World) (b : Nat) (l : My.Loc) (s : My.St) (hd : Int) (m : Mc.M) (cs : Array Value) : Prop where
 res : Blk W n 27 9 cs
 out : Blk W (n + 1) 27 9 (resC false 0 0 0 0 0 ⟨#[]⟩ ⟨#[]⟩ ⟨#[]⟩)
 mac : MacAt W b l s hd m
 bel : Below n w W
 off : Mc.off b l n
section
variable {w W W' : World} {n b : Nat} {l : My.Loc} {s : My.St} {hd : Int} {m : Mc.M} {cs ds : Array Value}
theorem Lf.kept (h : Lf w n W b l s hd m cs) (hb : Below W.heap.size W W') : Lf w n W' b l s hd m cs := ⟨h.res.kept hb, h.out.kept hb, h.mac.kept hb, h.bel.trans (hb.mono (by have := h.res.lt; omega)), h.off⟩
theorem Lf.set (h : Lf w n W b l s hd m cs) (k : Nat) (v : Value) (hd' : cs.setIfInBounds k v = ds) : Lf w n (W.setCell ⟨n, k, none⟩ v) b l s hd m ds := by
 refine ⟨by rw [← hd']; exact h.res.set k v, h.out.other _ _ (by show n + 1 ≠ n; omega), ?_, h.bel.setCell (Nat.le_refl _) _, h.off⟩
 exact h.mac.far (Y := fun k => k = n) (rest_setCell W ⟨n, k, none⟩ v rfl) (fun k hk => hk ▸ h.off)
end
theorem lf_start {w W2 : World} {b : Nat} {l : My.Loc} {s : My.St} {hd : Int} {m : Mc.M} {a c d : Int} (hm : MacAt w b l s hd m) (hW : (w.alloc (.cells (resC false a c d 0 0 ⟨#[]⟩ ⟨#[]⟩ ⟨#[]⟩) 27)).alloc (.cells (resC false 0 0 0 0 0 ⟨#[]⟩ ⟨#[]⟩ ⟨#[]⟩) 27) = W2) :
  Lf w w.heap.size W2 b l s hd m (resC false a c d 0 0 ⟨#[]⟩ ⟨#[]⟩ ⟨#[]⟩) := by
 subst hW
 exact ⟨(Blk.new' _ _ _ _ rfl rfl : Blk _ _ _ 9 _).alloc _, Blk.new' _ _ _ _ (by simp) rfl, (hm.alloc _).alloc _, ((Below.refl _ _).alloc (Nat.le_refl _) _).alloc (by simp) _, hm.newer (Nat.le_refl _)⟩
/-- the bytes of a region -/
def Mc.reg (s : My.St) (M : Int → UInt8) (k : Nat) : ByteArray := ⟨(My.row M (My.bs s k) (My.ln s k)).toArray⟩
theorem left_any (b : Nat) (l : My.Loc) (s : My.St) (hd : Int) (m : Mc.M) (a c d : Int) (w : World) (hm : MacAt w b l s hd m) :
  Calls Tryz.prog 25 #[.pointer (some ⟨b, 0, none⟩), .agg (resC false a c d 0 0 ⟨#[]⟩ ⟨#[]⟩ ⟨#[]⟩)] w fun e w' => e = .returned (.agg (resC m.done a c d (My.load s m.mem 537919488 4).1 (My.load s m.mem 538968064 4).1 (Mc.reg s m.mem 2) (Mc.reg s m.mem 3) (Mc.reg s m.mem 4))) ∧ Below w.heap.size w w' := by
 obtain ⟨W2, hW⟩ : ∃ W2, (w.alloc (.cells (resC false a c d 0 0 ⟨#[]⟩ ⟨#[]⟩ ⟨#[]⟩) 27)).alloc (.cells (resC false 0 0 0 0 0 ⟨#[]⟩ ⟨#[]⟩ ⟨#[]⟩) 27) = W2 := ⟨_, rfl⟩
 have H0 := Lib.hid (lf_start hm hW)
 have LD := fun (W : World) (h : MacAt W b l s hd m) (x : Int) (hx : x ≤ 9223372036854775807) => load_any l s m.mem x 4 W h.mem h.good hx
 have C1 := Lib.hid (fun (W : World) (h : MacAt W b l s hd m) => LD W h 537919488 (by decide))
 have C2 := Lib.hid (fun (W : World) (h : MacAt W b l s hd m) => LD W h 538968064 (by decide))
 have C3 : Hid (∀ W : World, MacAt W b l s hd m → Calls Tryz.prog 32 #[.pointer (some ⟨l.p, 0, none⟩), .int .i64 2] W fun e w' => e = .returned (.tuple #[.string ⟨(My.row m.mem (My.bs s 2) (My.ln s 2)).toArray⟩, .int .i64 0]) ∧ Below W.heap.size W w') := Lib.hid (fun (W : World) (h : MacAt W b l s hd m) => region_ok l s m.mem 2 W (Lib.hid h.mem) (by decide))
 have C4 : Hid (∀ W : World, MacAt W b l s hd m → Calls Tryz.prog 32 #[.pointer (some ⟨l.p, 0, none⟩), .int .i64 3] W fun e w' => e = .returned (.tuple #[.string ⟨(My.row m.mem (My.bs s 3) (My.ln s 3)).toArray⟩, .int .i64 0]) ∧ Below W.heap.size W w') := Lib.hid (fun (W : World) (h : MacAt W b l s hd m) => region_ok l s m.mem 3 W (Lib.hid h.mem) (by decide))
 have C5 : Hid (∀ W : World, MacAt W b l s hd m → Calls Tryz.prog 32 #[.pointer (some ⟨l.p, 0, none⟩), .int .i64 4] W fun e w' => e = .returned (.tuple #[.string ⟨(My.row m.mem (My.bs s 4) (My.ln s 4)).toArray⟩, .int .i64 0]) ∧ Below W.heap.size W w') := Lib.hid (fun (W : World) (h : MacAt W b l s hd m) => region_ok l s m.mem 4 W (Lib.hid h.mem) (by decide))
 clear LD
 unfold Mc.reg
 generalize (My.load s m.mem 537919488 4).1 = X at *
 generalize (My.load s m.mem 537919488 4).2 = X' at *
 generalize (My.load s m.mem 538968064 4).1 = Y at *
 generalize (My.load s m.mem 538968064 4).2 = Y' at *
 generalize (⟨(My.row m.mem (My.bs s 2) (My.ln s 2)).toArray⟩ : ByteArray) = O at *
 generalize (⟨(My.row m.mem (My.bs s 3) (My.ln s 3)).toArray⟩ : ByteArray) = A at *
 generalize (⟨(My.row m.mem (My.bs s 4) (My.ln s 4)).toArray⟩ : ByteArray) = B at *
 have c23 := H0.out.mac.done
 have f0 := H0.out.res.open 0
 have e0 := H0.out.res.cell 0
 have mp := H0.out.mac.memp
 generalize hD : m.done = D at *
 have H1 := Lib.hid (H0.out.set 0 (.bool D) (ds := resC D a c d 0 0 ⟨#[]⟩ ⟨#[]⟩ ⟨#[]⟩) rfl)
 clear hm H0 hD
 go_enter Tryz.func25, Tryz.ntmps25
 go_wp2_with (first
  | (go_at_call 41; with_reducible refine (C1.out _ H1.out.mac).mono ?_; rintro e w2 ⟨rfl, hb2⟩; have G2 := H1.out.kept hb2; have mp2 := G2.mac.memp; have f2 := G2.res.open 4; have e2 := G2.res.cell 4; have H2 := Lib.hid (G2.set 4 (.int .i64 X) (ds := resC D a c d X 0 ⟨#[]⟩ ⟨#[]⟩ ⟨#[]⟩) rfl); clear G2 hb2)
  | (go_at_call 41; with_reducible refine (C2.out _ H2.out.mac).mono ?_; rintro e w3 ⟨rfl, hb3⟩; have G3 := H2.out.kept hb3; have mp3 := G3.mac.memp; have f3 := G3.res.open 5; have e3 := G3.res.cell 5; have H3 := Lib.hid (G3.set 5 (.int .i64 Y) (ds := resC D a c d X Y ⟨#[]⟩ ⟨#[]⟩ ⟨#[]⟩) rfl); clear G3 hb3)
  | (go_at_call 32; with_reducible refine (C3.out _ H3.out.mac).mono ?_; rintro e w4 ⟨rfl, hb4⟩; have G4 := H3.out.kept hb4; have mp4 := G4.mac.memp; have f4 := G4.res.open 6; have e4 := G4.res.cell 6; have H4 := Lib.hid (G4.set 6 (.string O) (ds := resC D a c d X Y O ⟨#[]⟩ ⟨#[]⟩) rfl); clear G4 hb4)
  | (go_at_call 32; with_reducible refine (C4.out _ H4.out.mac).mono ?_; rintro e w5 ⟨rfl, hb5⟩; have G5 := H4.out.kept hb5; have mp5 := G5.mac.memp; have f5 := G5.res.open 7; have e5 := G5.res.cell 7; have H5 := Lib.hid (G5.set 7 (.string A) (ds := resC D a c d X Y O A ⟨#[]⟩) rfl); clear G5 hb5)
  | (go_at_call 32; with_reducible refine (C5.out _ H5.out.mac).mono ?_; rintro e w6 ⟨rfl, hb6⟩; have G6 := H5.out.kept hb6; have mp6 := G6.mac.memp; have f6 := G6.res.open 8; have e6 := G6.res.cell 8; have H6 := Lib.hid (G6.set 8 (.string B) (ds := resC D a c d X Y O A B) rfl); clear G6 hb6)
  | ((with_reducible refine wpList_load_blk resT H6.out.res ?_ ?_); exact rfl)
  | ((with_reducible refine wpList_store_blk resT H6.out.out (fits9 D a c d X Y O A B) ?_ ?_); exact rfl))
 try simp only [Exit.inBlock, Exit.then]
 exact bp_blk resT rfl rfl (H6.out.out.row (fits9 D a c d X Y O A B).size) rfl ⟨rfl, below_setRow H6.out.bel (by omega) _⟩
end Go.Proofs.YthciobjklhkkcaaGreat
