/-
 Package machine: blocks of a struct's cells; what fetch returns.
-/
import Derived.Recover
import Derived.Test.YthciobjklhkkcaaGreatMachC
import Derived.Test.YthciobjklhkkcaaGreatP12a
namespace Go.Proofs.YthciobjklhkkcaaGreat
open Go.ChangeShapes Go.WideShapes Go.ChangeAt Go.RowKit
set_option maxHeartbeats 4000000
set_option maxRecDepth 10000
set_option linter.unusedVariables false
set_option linter.unusedSimpArgs false

/-- a block of a struct's cells, that may be written -/
structure Blk (W : World) (b : Nat) (t : TypeId) (n : Nat) (cs : Array Value) : Prop where
 at' : W.heap[b]? = some (.cells cs t (0, 0))
 size : cs.size = n
/-- a struct's type of n cells -/
structure StructT (t : TypeId) (n : Nat) : Prop where
 und : ∃ fs, Tryz.prog.underlying t = some (.struct fs)
 info : (Tryz.prog.info? t).map (·.size) = some n
/-- cells that fit -/
structure Fits (n : Nat) (cs : Array Value) : Prop where
 size : cs.size = n
 one : cs.all (·.oneCell') = true
theorem insT : StructT 123 8 := ⟨⟨_, Tryz.underlying123⟩, by kernel_rfl⟩
theorem evT : StructT 49 4 := ⟨⟨_, Tryz.underlying49⟩, by kernel_rfl⟩
theorem resT : StructT 27 9 := ⟨⟨_, Tryz.underlying27⟩, by kernel_rfl⟩
theorem faultT : StructT 23 4 := ⟨⟨_, Tryz.underlying23⟩, by kernel_rfl⟩
theorem accT : StructT 137 4 := ⟨⟨_, Tryz.underlying137⟩, by kernel_rfl⟩
theorem stT : StructT 56 20 := ⟨⟨_, Tryz.underlying56⟩, info_state⟩
section
variable {W W' : World} {b n : Nat} {t : TypeId} {cs ds : Array Value}
theorem Blk.lt (h : Blk W b t n cs) : b < W.heap.size := (Array.getElem?_eq_some_iff.1 h.at').1
theorem Blk.kept (h : Blk W b t n cs) (hb : Below W.heap.size W W') : Blk W' b t n cs := ⟨by rw [hb.block b h.lt]; exact h.at', h.size⟩
theorem Blk.rest {X : Nat → Prop} (h : Blk W b t n cs) (hr : Rest X W W') (hx : ¬ X b) : Blk W' b t n cs := ⟨by rw [hr.block b h.lt hx]; exact h.at', h.size⟩
theorem Blk.alloc (h : Blk W b t n cs) (o : Obj) : Blk (W.alloc o) b t n cs := h.kept ((Below.refl _ _).alloc (Nat.le_refl _) o)
theorem Blk.new (W : World) (t : TypeId) (cs : Array Value) : Blk (W.alloc (.cells cs t)) W.heap.size t cs.size cs := ⟨heap_alloc_last W _, rfl⟩
theorem Blk.new' (W : World) (t : TypeId) (cs : Array Value) (k : Nat) (hk : k = W.heap.size) (hn : cs.size = n) : Blk (W.alloc (.cells cs t)) k t n cs := ⟨hk ▸ heap_alloc_last W _, hn⟩
theorem Blk.row (h : Blk W b t n cs) (hd : ds.size = n) : Blk (W.setRow b ds) b t n ds := ⟨setRow_heap W b _ _ _ _ h.at', hd⟩
theorem Blk.otherRow (h : Blk W b t n cs) (g : Nat) (ds : Array Value) (hne : b ≠ g) : Blk (W.setRow g ds) b t n cs := ⟨by rw [setRow_other _ _ _ _ hne]; exact h.at', h.size⟩
theorem Blk.other (h : Blk W b t n cs) (a : Addr) (v : Value) (hne : b ≠ a.block) : Blk (W.setCell a v) b t n cs := ⟨by rw [Below.heap_setCell _ _ _ _ hne]; exact h.at', h.size⟩
theorem Blk.cell (h : Blk W b t n cs) (k : Nat) : W.cell? ⟨b, k, none⟩ = cs[k]? := cell_of_row W b k _ _ _ h.at'
theorem Blk.open (h : Blk W b t n cs) (k : Nat) : W.frozen? ⟨b, k, none⟩ = false := by have := h.at'; simp [World.frozen?, this]
theorem Blk.set (h : Blk W b t n cs) (k : Nat) (v : Value) : Blk (W.setCell ⟨b, k, none⟩ v) b t n (cs.setIfInBounds k v) := ⟨heap_setCell_same W b k _ _ _ h.at', by simpa using h.size⟩
theorem rest_setRow {X : Nat → Prop} (h : X b) (W : World) (cs : Array Value) : Rest X W (W.setRow b cs) := Rest.setRow h cs
end
section
variable {ops : Array Oper} {rest : List Oper} {o : Oper} {a : Act} {w : World} {Q : Exit → Act → World → Prop} {K : Act → World → Prop} {b n : Nat} {t : TypeId} {cs ds : Array Value} {fn : Func} {R : Ending → World → Prop} {p q : Tmp}
theorem wp_load_blk (T : StructT t n) (h : Blk w b t n cs) (ho : ldOp a o = some (t, .pointer (some ⟨b, 0, none⟩)))
  (k : K (a.put o.dst (.agg cs)) w) : Oper.wp Tryz.prog o a w K Q := by
 obtain ⟨x, ho, hx⟩ := ldOp_eq ho
 obtain ⟨fs, hu⟩ := T.und
 exact wp_load_row _ x ho b hx _ _ _ _ h.at' hu rfl (by rw [h.size]; exact T.info) k
theorem wpList_load_blk (T : StructT t n) (h : Blk w b t n cs) (ho : ldOf a o = some (t, .pointer (some ⟨b, 0, none⟩)))
  (k : wpList Tryz.prog ops Q rest (a.put o.dst (.agg cs)) w) : wpList Tryz.prog ops Q (o :: rest) a w := by
 obtain ⟨hg, x, ho, hx⟩ := ldOf_eq ho
 obtain ⟨fs, hu⟩ := T.und
 exact wpList_load_row hg _ x ho b hx _ _ _ _ h.at' hu rfl (by rw [h.size]; exact T.info) k
theorem wpList_load_blkg (T : StructT t n) (h : Blk w b t n cs) (ho : ldOp a o = some (t, .pointer (some ⟨b, 0, none⟩))) (hw : Region.wanted o (yielded ops a.tmps) = true)
  (k : wpList Tryz.prog ops Q rest (a.put o.dst (.agg cs)) w) : wpList Tryz.prog ops Q (o :: rest) a w :=
 wpList_take hw fun _ hK => wp_load_blk T h ho (hK _ _ k)
theorem wp_store_blk (T : StructT t n) (h : Blk w b t n cs) (F : Fits n ds) (ho : o.guard = none ∧ stOf a o = some (t, .pointer (some ⟨b, 0, none⟩), .agg ds))
  (k : K (a.put o.dst undef) (w.setRow b ds)) : Oper.wp Tryz.prog o a w K Q := by
 obtain ⟨hg, x, y, ho, hx, hy⟩ := stOf_eq ho.2
 exact wp_store_row _ x y ho b _ hx hy _ _ h.at' (by rw [F.size]; exact T.info) (by rw [h.size, F.size]) F.one k
theorem wpList_store_blk (T : StructT t n) (h : Blk w b t n cs) (F : Fits n ds) (ho : stOf a o = some (t, .pointer (some ⟨b, 0, none⟩), .agg ds))
  (k : wpList Tryz.prog ops Q rest (a.put o.dst undef) (w.setRow b ds)) : wpList Tryz.prog ops Q (o :: rest) a w := by
 obtain ⟨hg, x, y, ho, hx, hy⟩ := stOf_eq ho
 exact wpList_plain hg fun _ hK => wp_store_row _ x y ho b _ hx hy _ _ h.at' (by rw [F.size]; exact T.info) (by rw [h.size, F.size]) F.one (hK _ _ k)
theorem bp_blk (T : StructT t n) (hr : fn.results = #[.cell p t]) (hp : a.tmps.getD p undef = .pointer (some ⟨b, 0, none⟩)) (h : Blk w b t n cs) (hd : a.defers = []) (hR : R (.returned (.agg cs)) w) : bodyPost Tryz.prog fn R .ret a w := by
 obtain ⟨fs, hu⟩ := T.und
 exact bodyPost_ret (results_cell_row hr _ w b _ _ _ _ hp h.at' hu rfl (by rw [h.size]; exact T.info)) hd hR
theorem bp_blk2 (T : StructT t n) (hr : fn.results = #[.cell p t, .tmp q]) (hp : a.tmps.getD p undef = .pointer (some ⟨b, 0, none⟩)) (h : Blk w b t n cs) (hd : a.defers = []) (hR : R (.returned (.tuple #[.agg cs, a.tmps.getD q undef])) w) : bodyPost Tryz.prog fn R .ret a w := by
 obtain ⟨fs, hu⟩ := T.und
 have hp' : a.tmps[p]?.getD undef = .pointer (some ⟨b, 0, none⟩) := by simpa using hp
 refine bodyPost_ret ?_ hd hR
 simp [results, hr, hp', asAddr, run_loadVar_row w b _ _ _ _ _ h.at' hu rfl (by rw [h.size]; exact T.info)]
end
theorem fits4 (a b c d : Int) : Fits 4 #[.int .i64 a, .int .i64 b, .int .i64 c, .int .i64 d] := ⟨rfl, by simp [Value.oneCell']⟩
theorem fits8 (op rd rn rm ra imm cond : Int) (wide : Bool) : Fits 8 #[.int .i64 op, .int .i64 rd, .int .i64 rn, .int .i64 rm, .int .i64 ra, .int .i64 imm, .int .i64 cond, .bool wide] := ⟨rfl, by simp [Value.oneCell']⟩
theorem fitsS (s : Cs.St) : Fits 20 (Cs.cells s) := ⟨rfl, Cs.cells_one s⟩
theorem My.fl_max {s : My.St} (h : My.good s) : s.fl.size ≤ 262144 := by have := (My.bs_bd h 0 (by decide)).2.2; rw [My.ln_0] at this; exact this
/-- how a step gives up -/
abbrev gaveUp (addr : Int) : Ending := .panicked [{ v := .iface 120 (.agg #[.int .i64 addr]), recovered := false }]
theorem fetch_odd (b : Nat) (l : My.Loc) (s : My.St) (hd : Int) (m : Mc.M) (w : World) (P : Nat) (hm : Hid (MacAt w b l s hd m)) (hP : Hid (m.st.pc = (P : Int))) (h : ¬ (P : Int) % 2 = 0) :
  Calls Tryz.prog 56 #[.pointer (some ⟨b, 0, none⟩)] w fun e w' => e = gaveUp 0 ∧ Below w.heap.size w w' := by
 have HA := hm.out.alloc (.cells #[.int .i64 0, .int .i64 0, .int .i64 0, .int .i64 0, .int .i64 0, .int .i64 0, .int .i64 0, .bool false] 123)
 have x1 := HA.pc
 rw [hP.out] at x1
 have h1 : ¬ (P : Int).tmod 2 = 0 := by rw [Int.tmod_eq_emod_of_nonneg (by omega)]; exact h
 clear HA hm hP h
 have hpn : ∀ (t : TypeId) (v : Value) (w : World), (Instr.panic (.iface t v)).run Tryz.prog w = .halt (.panic (.iface t v)) w := fun _ _ _ => rfl
 go_enter Tryz.func56, Tryz.ntmps56
 go_wp2
 exact ⟨rfl, rfl, by go_grown⟩
theorem fetch_far (b : Nat) (l : My.Loc) (s : My.St) (hd : Int) (m : Mc.M) (w : World) (P : Nat) (hm : Hid (MacAt w b l s hd m)) (hP : Hid (m.st.pc = (P : Int))) (h : (P : Int) % 2 = 0) (h2 : s.fl.size ≤ P) :
  Calls Tryz.prog 56 #[.pointer (some ⟨b, 0, none⟩)] w fun e w' => e = gaveUp 0 ∧ Below w.heap.size w w' := by
 have HA := hm.out.alloc (.cells #[.int .i64 0, .int .i64 0, .int .i64 0, .int .i64 0, .int .i64 0, .int .i64 0, .int .i64 0, .bool false] 123)
 have x1 := HA.pc
 rw [hP.out] at x1
 have x0 := HA.flash
 have h1 : (P : Int).tmod 2 = 0 := by rw [Int.tmod_eq_emod_of_nonneg (by omega)]; exact h
 generalize s.fl = fl at *
 have h3 : (fl.size : Int) ≤ (P : Int) := by omega
 clear HA hm hP h h2
 have hpn : ∀ (t : TypeId) (v : Value) (w : World), (Instr.panic (.iface t v)).run Tryz.prog w = .halt (.panic (.iface t v)) w := fun _ _ _ => rfl
 go_enter Tryz.func56, Tryz.ntmps56
 go_wp2
 exact ⟨rfl, rfl, by go_grown⟩
theorem fetch_err (b : Nat) (l : My.Loc) (s : My.St) (hd : Int) (m : Mc.M) (w : World) (P : Nat) (E : Int) (hm : Hid (MacAt w b l s hd m)) (hP : Hid (m.st.pc = (P : Int))) (h : (P : Int) % 2 = 0) (h2 : P < s.fl.size) (hE : Hid (De.err (Mc.code (Mc.xOf s hd) P) = E)) (hz : ¬ E = 0) :
  Calls Tryz.prog 56 #[.pointer (some ⟨b, 0, none⟩)] w fun e w' => e = gaveUp 0 ∧ Below w.heap.size w w' := by
 have HA := hm.out.alloc (.cells #[.int .i64 0, .int .i64 0, .int .i64 0, .int .i64 0, .int .i64 0, .int .i64 0, .int .i64 0, .bool false] 123)
 have x1 := HA.pc
 rw [hP.out] at x1
 have x0 := HA.flash
 have h1 : (P : Int).tmod 2 = 0 := by rw [Int.tmod_eq_emod_of_nonneg (by omega)]; exact h
 have hs : s.fl.size ≤ maxLen := by have := My.fl_max hm.out.good; unfold maxLen; omega
 have hc : Mc.code (Mc.xOf s hd) P = s.fl.extract P s.fl.size := by unfold Mc.code Mc.xOf; simp
 rcases hI : De.ins (s.fl.extract P s.fl.size) with ⟨op, rd, rn, rm, ra, imm, cond, wide⟩
 have hT : Hid (Told (s.fl.extract P s.fl.size) ⟨op, rd, rn, rm, ra, imm, cond, wide⟩ (De.len (s.fl.extract P s.fl.size) : Int) E) := Lib.hid ⟨hI, rfl, by rw [← hc]; exact hE.out⟩
 have hsz : (s.fl.extract P s.fl.size).size ≤ maxLen := by rw [ByteArray.size_extract]; omega
 generalize (De.len (s.fl.extract P s.fl.size) : Int) = L at *
 have HS := Lib.hid hsz
 clear hsz hI hc hs HA hm hP h hE
 generalize s.fl = fl at *
 have h3 : (P : Int) < (fl.size : Int) := by omega
 have h4 : (P : Int) ≤ (fl.size : Int) := by omega
 have h5 : (0 : Int) ≤ (P : Int) := by omega
 have hz' : (E != 0) = true := by simpa using hz
 have hpn : ∀ (t : TypeId) (v : Value) (w : World), (Instr.panic (.iface t v)).run Tryz.prog w = .halt (.panic (.iface t v)) w := fun _ _ _ => rfl
 go_enter Tryz.func56, Tryz.ntmps56
 go_wp2_with (go_at_call 84; refine (decode_lit _ _ _ _ _ _ _ _ _ _ _ _ HS.out hT.out).mono ?_; rintro e w1 ⟨rfl, hb1⟩)
 have h0 := (((Below.refl w.heap.size w).alloc (Nat.le_refl _) _).trans (hb1.mono (by simp)))
 exact ⟨rfl, rfl, h0.alloc h0.size _⟩
theorem fetch_ok (b : Nat) (l : My.Loc) (s : My.St) (hd : Int) (m : Mc.M) (w : World) (P : Nat) (op rd rn rm ra imm cond L : Int) (wide : Bool) (hm : Hid (MacAt w b l s hd m)) (hP : Hid (m.st.pc = (P : Int))) (h : (P : Int) % 2 = 0) (h2 : P < s.fl.size) (hT : Hid (Told (Mc.code (Mc.xOf s hd) P) ⟨op, rd, rn, rm, ra, imm, cond, wide⟩ L 0)) :
  Calls Tryz.prog 56 #[.pointer (some ⟨b, 0, none⟩)] w fun e w' => e = .returned (.tuple #[.agg #[.int .i64 op, .int .i64 rd, .int .i64 rn, .int .i64 rm, .int .i64 ra, .int .i64 imm, .int .i64 cond, .bool wide], .int .i64 L]) ∧ Below w.heap.size w w' := by
 have HA := hm.out.alloc (.cells #[.int .i64 0, .int .i64 0, .int .i64 0, .int .i64 0, .int .i64 0, .int .i64 0, .int .i64 0, .bool false] 123)
 have x1 := HA.pc
 rw [hP.out] at x1
 have x0 := HA.flash
 have h1 : (P : Int).tmod 2 = 0 := by rw [Int.tmod_eq_emod_of_nonneg (by omega)]; exact h
 have hs : s.fl.size ≤ maxLen := by have := My.fl_max hm.out.good; unfold maxLen; omega
 have hc : Mc.code (Mc.xOf s hd) P = s.fl.extract P s.fl.size := by unfold Mc.code Mc.xOf; simp
 rw [hc] at hT
 have hsz : (s.fl.extract P s.fl.size).size ≤ maxLen := by rw [ByteArray.size_extract]; omega
 have HS := Lib.hid hsz
 clear hsz hc hs HA hm hP h
 generalize s.fl = fl at *
 have h3 : (P : Int) < (fl.size : Int) := by omega
 have h4 : (P : Int) ≤ (fl.size : Int) := by omega
 have h5 : (0 : Int) ≤ (P : Int) := by omega
 have HN : Hid (Blk (w.alloc (.cells #[.int .i64 0, .int .i64 0, .int .i64 0, .int .i64 0, .int .i64 0, .int .i64 0, .int .i64 0, .bool false] 123)) w.heap.size 123 8 _) := Lib.hid (Blk.new _ _ _)
 go_enter Tryz.func56, Tryz.ntmps56
 go_wp2_with (first | (go_at_call 84; refine (decode_lit _ _ _ _ _ _ _ _ _ _ _ _ HS.out hT.out).mono ?_; rintro e w1 ⟨rfl, hb1⟩; have HK := Lib.hid ((HN.out.kept hb1).alloc (.cells #[.int .i64 op, .int .i64 rd, .int .i64 rn, .int .i64 rm, .int .i64 ra, .int .i64 imm, .int .i64 cond, .bool wide] 123)); have HB := Lib.hid hb1; clear hb1) | ((with_reducible refine wpList_store_blk insT HK.out (fits8 op rd rn rm ra imm cond wide) ?_ ?_); exact rfl))
 try simp only [Exit.inBlock, Exit.then]
 refine bp_blk2 insT rfl rfl (HK.out.row rfl) rfl ⟨rfl, ?_⟩
 have h0 := (((Below.refl w.heap.size w).alloc (Nat.le_refl _) _).trans (HB.out.mono (by simp)))
 exact below_setRow (h0.alloc h0.size _) (Nat.le_refl _) _
end Go.Proofs.YthciobjklhkkcaaGreat
