/-
Package memory: the memory as it lies in the world; what blank returns.
What taken, shifted, joined, compared of package cpu return; the document's Taken, put, value.
Plain mathematics of instructions: unlike instructions have unlike bytes, none the beginning of the other ones'. It names nothing of the translated program.
-/
import Derived.Lib.BufferWrite
import Derived.Laws.MakeOwn
import Derived.Laws.CopyOwn
import Derived.Test.YthciobjklhkkcaaGreatP04a
import Derived.Test.YthciobjklhkkcaaGreatP03b
import Derived.Test.YthciobjklhkkcaaGreatP04b
section
namespace Go.Proofs.YthciobjklhkkcaaGreat
open Go.ChangeShapes Go.WideShapes Go.ChangeAt Go.RowKit
set_option maxHeartbeats 8000000
set_option maxRecDepth 100000
set_option linter.unusedVariables false

/-- all blocks but some are as they were -/
structure Rest (X : Nat → Prop) (w w' : World) : Prop where
 os : w'.os = w.os
 tape : w'.tape = w.tape
 output : w'.output = w.output
 size : w.heap.size ≤ w'.heap.size
 block : ∀ k, k < w.heap.size → ¬ X k → w'.heap[k]? = w.heap[k]?
theorem Rest.refl (X : Nat → Prop) (w : World) : Rest X w w := ⟨rfl, rfl, rfl, Nat.le_refl _, fun _ _ _ => rfl⟩
theorem Rest.trans {X : Nat → Prop} {a b c : World} (h : Rest X a b) (k : Rest X b c) : Rest X a c :=
 ⟨k.os.trans h.os, k.tape.trans h.tape, k.output.trans h.output, Nat.le_trans h.size k.size, fun i hi hx => (k.block i (Nat.lt_of_lt_of_le hi h.size) hx).trans (h.block i hi hx)⟩
theorem Rest.of {X : Nat → Prop} {w w' : World} (h : Below w.heap.size w w') : Rest X w w' := ⟨h.os, h.tape, h.output, h.size, fun k hk _ => h.block k hk⟩
theorem Rest.cell {X : Nat → Prop} {w w' : World} (h : Rest X w w') {p : Addr} (hp : p.block < w.heap.size) (hx : ¬ X p.block) : w'.cell? p = w.cell? p := World.cell?_of_block (w := w) (h.block p.block hp hx)
theorem Rest.setRow {X : Nat → Prop} {w : World} {g : Nat} (hg : X g) (cs : Array Value) : Rest X w (w.setRow g cs) :=
 ⟨rfl, rfl, rfl, by simp, fun k hk hx => setRow_other w g k cs (fun e => hx (e ▸ hg))⟩
/-- a row of bytes in a block of its own -/
def RowAt (W : World) (g : Nat) (l : List UInt8) : Prop := W.heap[g]? = some (.cells (Lib.byteCells l).toArray 5 (0, 0))
theorem RowAt.lt {W : World} {g : Nat} {l : List UInt8} (h : RowAt W g l) : g < W.heap.size := (Array.getElem?_eq_some_iff.1 h).1
theorem RowAt.kept {W W' : World} {g : Nat} {l : List UInt8} (h : RowAt W g l) (hb : Below W.heap.size W W') : RowAt W' g l := by
 unfold RowAt; rw [hb.block g h.lt]; exact h
theorem made_zero (n : Nat) : madeCells #[Value.int .u8 0] n = (Lib.byteCells (List.replicate n 0)).toArray := by
 apply Array.ext'
 simp [madeCells, Lib.byteCells]
 apply List.ext_getElem?
 intro j
 by_cases hj : j < n
 ·simp [hj, Nat.mod_one]
 ·simp [hj]
theorem info_u8 : ∃ i, Tryz.prog.info? 5 = some i ∧ i.size = 1 ∧ i.bytes = 1 ∧ i.zero = some (.int .u8 0) := by
 have h : (Tryz.prog.info? 5).map (fun i => (i.size, i.bytes, i.zero)) = some (1, 1, some (Value.int .u8 0)) := by kernel_rfl
 cases hq : Tryz.prog.info? 5 with
 | none => rw [hq] at h; cases h
 | some i => rw [hq] at h; simp at h; exact ⟨i, rfl, h.1, h.2.1, h.2.2⟩
theorem info_row : ∃ i, Tryz.prog.info? 115 = some i ∧ i.size = 1 ∧ i.bytes = 24 ∧ i.zero = some (.slice none 0 0) := by
 have h : (Tryz.prog.info? 115).map (fun i => (i.size, i.bytes, i.zero)) = some (1, 24, some (Value.slice none 0 0)) := by kernel_rfl
 cases hq : Tryz.prog.info? 115 with
 | none => rw [hq] at h; cases h
 | some i => rw [hq] at h; simp at h; exact ⟨i, rfl, h.1, h.2.1, h.2.2⟩
theorem make_bytes (n : Nat) (hn : n ≤ 1000000) (w : World) :
  (Instr.makeSlice 115 (.int .i64 (n : Int)) (.int .i64 (n : Int))).run Tryz.prog w = .ok (.slice (some ⟨w.heap.size, 0, none⟩) n n) (w.alloc (.cells (Lib.byteCells (List.replicate n 0)).toArray 5)) := by
 obtain ⟨i, hi, h1, h2, h3⟩ := info_u8
 have h := run_make (P := Tryz.prog) w 115 5 i (.int .u8 0) Tryz.underlying115 hi h3 .i64 .i64 n n (by omega) (by omega) (by rw [h2]; omega) (by omega)
 rw [h, h1, Nat.mul_one, Int.toNat_natCast, ← made_zero]
 rfl
theorem make_rows (w : World) :
  (Instr.makeSlice 111 (.int .i64 7) (.int .i64 7)).run Tryz.prog w = .ok (.slice (some ⟨w.heap.size, 0, none⟩) 7 7) (w.alloc (.cells #[.slice none 0 0, .slice none 0 0, .slice none 0 0, .slice none 0 0, .slice none 0 0, .slice none 0 0, .slice none 0 0] 115)) := by
 obtain ⟨i, hi, h1, h2, h3⟩ := info_row
 have h := run_make (P := Tryz.prog) w 111 115 i (.slice none 0 0) Tryz.underlying111 hi h3 .i64 .i64 7 7 (by omega) (by omega) (by rw [h2]; omega) (by omega)
 rw [h, h1]
 have e : madeCells (Value.slice none 0 0).cells 7 = #[.slice none 0 0, .slice none 0 0, .slice none 0 0, .slice none 0 0, .slice none 0 0, .slice none 0 0, .slice none 0 0] := by kernel_rfl
 show Result.ok (Value.slice _ 7 7) (w.alloc (.cells (madeCells (Value.slice none 0 0).cells 7) _)) = _
 rw [e]
/-- the first k rows of a memory, all noughts -/
structure BlAt (W : World) (B : Nat) (s : My.St) (k : Nat) (G : Nat → Nat) : Prop where
 cells : ∃ cs : Array Value, W.heap[B]? = some (.cells cs 115 (0, 0)) ∧ cs.size = 7 ∧ ∀ j, j < k → cs[j]? = some (.slice (some ⟨G j, 0, none⟩) (My.ln s j) (My.ln s j))
 rows : ∀ j, j < k → B < G j ∧ RowAt W (G j) (List.replicate (My.ln s j) 0)
 ne : ∀ i j, i < j → j < k → G i ≠ G j
theorem BlAt.next {W : World} {B : Nat} {s : My.St} {k : Nat} {G : Nat → Nat} (h : BlAt W B s k G) (hk : k < 7) (o : Obj) (m : Nat) (hm : m = W.heap.size + 1) :
  BlAt (((W.alloc o).alloc (.cells (Lib.byteCells (List.replicate (My.ln s k) 0)).toArray 5)).setCell ⟨B, k, none⟩ (.slice (some ⟨m, 0, none⟩) (My.ln s k) (My.ln s k))) B s (k + 1) (fun j => if j = k then W.heap.size + 1 else G j) := by
 subst hm
 obtain ⟨⟨cs, hB, h7, hc⟩, hr, hne⟩ := h
 have hBlt : B < W.heap.size := (Array.getElem?_eq_some_iff.1 hB).1
 have hB2 : ((W.alloc o).alloc (.cells (Lib.byteCells (List.replicate (My.ln s k) 0)).toArray 5)).heap[B]? = some (.cells cs 115 (0, 0)) := by
  rw [Below.heap_alloc _ _ _ (by simp; omega), Below.heap_alloc _ _ _ hBlt]; exact hB
 refine ⟨⟨cs.setIfInBounds k (.slice (some ⟨W.heap.size + 1, 0, none⟩) (My.ln s k) (My.ln s k)), ?_, by simpa using h7, fun j hj => ?_⟩, fun j hj => ?_, fun i j hij hj => ?_⟩
 ·rw [setCell_eq_setRow _ B k cs _ (0, 0) _ hB2]
  exact setRow_heap _ _ _ _ _ _ hB2
 ·by_cases hjk : j = k
  ·subst hjk
   rw [if_pos rfl]
   simp [h7, hk]
  ·rw [if_neg hjk, Array.getElem?_setIfInBounds_ne (by omega)]
   exact hc j (by omega)
 ·by_cases hjk : j = k
  ·subst hjk
   rw [if_pos rfl]
   refine ⟨by omega, ?_⟩
   unfold RowAt
   rw [Below.heap_setCell _ _ _ _ (by show W.heap.size + 1 ≠ B; omega)]
   show ((W.heap.push o).push _)[W.heap.size + 1]? = _
   rw [show W.heap.size + 1 = (W.heap.push o).size by simp, Array.getElem?_push_size]
  ·rw [if_neg hjk]
   obtain ⟨h1, h2⟩ := hr j (by omega)
   refine ⟨h1, ?_⟩
   unfold RowAt
   rw [Below.heap_setCell _ _ _ _ (by show G j ≠ B; omega), Below.heap_alloc _ _ _ (by have := h2.lt; simp; omega), Below.heap_alloc _ _ _ h2.lt]
   exact h2
 ·by_cases hjk : j = k
  ·subst hjk
   rw [if_pos rfl, if_neg (by omega)]
   have := (hr i hij).2.lt
   omega
  ·rw [if_neg hjk, if_neg (by omega)]
   exact hne i j hij (by omega)
theorem BlAt.open {W : World} {B : Nat} {s : My.St} {k : Nat} {G : Nat → Nat} (h : BlAt W B s k G) (j : Nat) (hj : j < 7) (o o' : Obj) : (∃ v, ((W.alloc o).alloc o').cell? ⟨B, j, none⟩ = some v) ∧ ((W.alloc o).alloc o').frozen? ⟨B, j, none⟩ = false := by
 obtain ⟨⟨cs, hB, h7, hc⟩, hr, hne⟩ := h
 have hBlt : B < W.heap.size := (Array.getElem?_eq_some_iff.1 hB).1
 have hB2 : ((W.alloc o).alloc o').heap[B]? = some (.cells cs 115 (0, 0)) := by
  rw [Below.heap_alloc _ _ _ (by simp; omega), Below.heap_alloc _ _ _ hBlt]; exact hB
 refine ⟨⟨cs[j]'(by omega), ?_⟩, ?_⟩
 ·simp [World.cell?, hB2, h7, hj]
 ·simp [World.frozen?, hB2]
theorem blank_any (s : My.St) (ad : Addr) (c : Nat) (w : World) (hg : Hid (My.good s)) (hL : Hid (SliceC rgC 3 w (.slice (some ad) 7 c) (My.sev s))) :
  Calls Tryz.prog 51 #[.slice (some ad) 7 c] w fun e w' => e = .returned (.slice (some ⟨w.heap.size, 0, none⟩) 7 7) ∧ (∃ G, BlAt w' w.heap.size s 7 G) ∧ Below w.heap.size w w' := by
 have hM := fun (w : World) => make_rows w
 go_enter Tryz.func51, Tryz.ntmps51
 go_wp2
 go_loopw [11] (fun K W => ∃ k : Nat, K = .int .i64 (k : Int) ∧ k ≤ 7 ∧ ∃ G, BlAt W w.heap.size s k G ∧ Below w.heap.size w W) (fun K _ => 7 - (intOf K).toNat)
 case atStart =>
  refine ⟨0, rfl, Nat.zero_le _, fun _ => 0, ⟨⟨_, by show (w.heap.push _)[w.heap.size]? = _; rw [Array.getElem?_push_size], rfl, fun j hj => absurd hj (Nat.not_lt_zero _)⟩, fun j hj => absurd hj (Nat.not_lt_zero _), fun i j hij hj => absurd hj (Nat.not_lt_zero _)⟩, (Below.refl _ _).alloc (Nat.le_refl _) _⟩
 case round =>
  obtain ⟨k, rfl, hk7, G, hBl, hB⟩ := hrel
  by_cases hlt : k < 7
  ·have hlt' : (k : Int) < 7 := by omega
   have hk0 : (0 : Int) ≤ (k : Int) := by omega
   obtain ⟨p', c', e', hat⟩ := hL.out
   obtain ⟨a2, hpa, hOn0⟩ := hat k hlt
   injection e' with ep en ec
   rw [hpa] at ep
   injection ep with ep
   subst ep
   have hOn := hOn0.kept hB
   have x0 : wr.cell? (ad.add (k * 3)) = some (.int .i64 (My.bs s k)) := by have h0 := hOn 0 _ rfl; rw [add_zero'] at h0; rw [← My.bs_at s k hlt]; exact h0
   have x1 : wr.cell? ⟨(ad.add (k * 3)).block, (ad.add (k * 3)).off + 1, none⟩ = some (.int .i64 ((My.ln s k : Nat) : Int)) := by rw [← My.ln_at hg.out k hlt]; exact hOn 1 _ rfl
   have x2 : wr.cell? ⟨(ad.add (k * 3)).block, (ad.add (k * 3)).off + 2, none⟩ = some (.bool (My.sev s)[k].write) := hOn 2 _ rfl
   have HN := BlAt.next hBl hlt
   have hmk := fun (w : World) => make_bytes (My.ln s k) (by have := (My.bs_bd hg.out k hlt).2.2; omega) w
   generalize My.bs s k = bb at *
   generalize (My.sev s)[k].write = wt at *
   generalize hln : My.ln s k = ln at *
   have HX := Lib.hid HN
   obtain ⟨⟨v0, y0⟩, y1⟩ := BlAt.open hBl k hlt (.cells #[.int .i64 bb, .int .i64 (ln : Int), .bool wt] 154) (.cells (Lib.byteCells (List.replicate ln 0)).toArray 5)
   have HW := Lib.hid hB
   clear hOn hOn0 hat hpa ec en HN hBl hB hln
   go_wp2
   exact ⟨⟨k + 1, by simp, by omega, _, HX.out _ _ rfl, ((HW.out.alloc HW.out.size _).alloc (by have := HW.out.size; simp; omega) _).setCell (Nat.le_refl _) _⟩, by simp [intOf]; omega⟩
  ·have hge : ¬ (k : Int) < 7 := by omega
   obtain rfl : k = 7 := by omega
   go_wp2
   go_ret
   exact ⟨rfl, ⟨G, hBl⟩, hB⟩
end Go.Proofs.YthciobjklhkkcaaGreat
end
section
namespace Go.Proofs.YthciobjklhkkcaaGreat
open Go.ChangeShapes Go.WideShapes Go.ChangeAt Go.RowKit
set_option maxHeartbeats 2000000
set_option linter.unusedVariables false

theorem taken_any (s : Cs.St) (op rd rn rm ra imm cond : Int) (wide : Bool) (w : World) :
  Calls Tryz.prog 116 #[.agg (Cs.cells s), .agg #[.int .i64 op, .int .i64 rd, .int .i64 rn, .int .i64 rm, .int .i64 ra, .int .i64 imm, .int .i64 cond, .bool wide]] w fun e w' => e = .returned (.bool (Cs.taken s op cond)) ∧ Below w.heap.size w w' := by
 have hl : StateAt ((w.alloc (.cells (Cs.cells s) 56)).alloc (.cells #[.int .i64 op, .int .i64 rd, .int .i64 rn, .int .i64 rm, .int .i64 ra, .int .i64 imm, .int .i64 cond, .bool wide] 123)) w.heap.size s := (state_alloc w s).alloc _
 cases h24 : (op == 24)
 ·cases h25 : (op == 25)
  ·go_enter Tryz.func116, Tryz.ntmps116
   go_wp2_with (first | go_skip | ((with_reducible refine wpList_load_stg (hl) ?_ ?_ ?_); exact rfl; exact rfl) | ((with_reducible refine wpList_take ?_ ?_); exact rfl; intro _ _) | (go_at_call 148; refine (holds_any _ _ _).mono ?_; rintro e w' ⟨rfl, hb⟩))
   go_ret
   refine ⟨ret_bool (by simp [Cs.taken, h24, h25]), ?_⟩
   first | exact (((Below.refl _ _).alloc (Nat.le_refl _) _).alloc (by simp) _).trans (hb.mono (by simp; omega)) | go_grown
  ·go_enter Tryz.func116, Tryz.ntmps116
   go_wp2_with (first | go_skip | ((with_reducible refine wpList_load_stg (hl) ?_ ?_ ?_); exact rfl; exact rfl) | ((with_reducible refine wpList_take ?_ ?_); exact rfl; intro _ _) | (go_at_call 148; refine (holds_any _ _ _).mono ?_; rintro e w' ⟨rfl, hb⟩))
   go_ret
   refine ⟨ret_bool (by simp [Cs.taken, h24, h25]), ?_⟩
   first | exact (((Below.refl _ _).alloc (Nat.le_refl _) _).alloc (by simp) _).trans (hb.mono (by simp; omega)) | go_grown
 ·go_enter Tryz.func116, Tryz.ntmps116
  go_wp2_with (first | go_skip | ((with_reducible refine wpList_load_stg (hl) ?_ ?_ ?_); exact rfl; exact rfl) | ((with_reducible refine wpList_take ?_ ?_); exact rfl; intro _ _) | (go_at_call 148; refine (holds_any _ _ _).mono ?_; rintro e w' ⟨rfl, hb⟩))
  go_ret
  refine ⟨ret_bool (by simp [Cs.taken, h24]), ?_⟩
  first | exact (((Below.refl _ _).alloc (Nat.le_refl _) _).alloc (by simp) _).trans (hb.mono (by simp; omega)) | go_grown

theorem shifted_any (op m by_ : Int) (w : World) :
  Calls Tryz.prog 151 #[.int .i64 op, .int .i64 m, .int .i64 by_] w fun e w' => e = .returned (.int .i64 (Cs.shifted op m by_)) ∧ w = w' := by
 go_enter Tryz.func151, Tryz.ntmps151
 go_wp2_with (first | (go_at_call 150; refine (shl_any _ _ _).mono ?_; rintro e w' ⟨rfl, rfl⟩) | (go_at_call 106; refine (shr_any _ _ _).mono ?_; rintro e w' ⟨rfl, rfl⟩) | (go_at_call 166; refine (sar_any _ _ _).mono ?_; rintro e w' ⟨rfl, rfl⟩) | (go_at_call 167; refine (ror_any _ _ _).mono ?_; rintro e w' ⟨rfl, rfl⟩))
 all_goals
  go_ret
  exact ⟨wret_int (by simp [Cs.shifted, *]), rfl⟩

theorem joined_any (op n m : Int) (w : World) :
  Calls Tryz.prog 152 #[.int .i64 op, .int .i64 n, .int .i64 m] w fun e w' => e = .returned (.int .i64 (Cs.joined op n m)) ∧ w = w' := by
 go_enter Tryz.func152, Tryz.ntmps152
 go_wp2_with (first | (go_at_call 57; refine (add_any _ _ _).mono ?_; rintro e w' ⟨rfl, rfl⟩) | (go_at_call 168; refine (sub_any _ _ _).mono ?_; rintro e w' ⟨rfl, rfl⟩) | (go_at_call 153; refine (mul_any _ _ _).mono ?_; rintro e w' ⟨rfl, rfl⟩) | (go_at_call 145; refine (and_any _ _ _).mono ?_; rintro e w' ⟨rfl, rfl⟩) | (go_at_call 149; refine (or_any _ _ _).mono ?_; rintro e w' ⟨rfl, rfl⟩) | (go_at_call 82; refine (xor_any _ _ _).mono ?_; rintro e w' ⟨rfl, rfl⟩) | (go_at_call 52; refine (not_any _ _).mono ?_; rintro e w' ⟨rfl, rfl⟩))
 all_goals
  go_ret
  exact ⟨wret_int (by simp [Cs.joined, *]), rfl⟩

theorem compared_any (s : Cs.St) (n m : Int) (w : World) (n0 : 0 ≤ n) (n1 : n < 4294967296) (m0 : 0 ≤ m) (m1 : m < 4294967296) :
  Calls Tryz.prog 156 #[.agg (Cs.cells s), .int .i64 n, .int .i64 m] w fun e w' => e = .returned (.agg (Cs.cells (Cs.cmp s n m))) ∧ Below w.heap.size w w' := by
 have hl : ∀ s, StateAt ((w.alloc (.cells (Cs.cells s) 56)).alloc (.cells Cs.zero 56)) w.heap.size s := fun s => (state_alloc w s).alloc _
 have hl2 : ∀ s t, StateAt ((w.alloc (.cells (Cs.cells s) 56)).alloc (.cells (Cs.cells t) 56)) (w.heap.size + 1) t := fun s t => state_alloc' _ _ _ (by simp)
 have hl3 : ∀ s, StateAt ((w.alloc (.cells (Cs.cells s) 56)).alloc (.cells Cs.zero 56)) (w.heap.size + 1) Cs.none := fun s => hl2 s Cs.none
 have c0 : ∀ s : Cs.St, (Cs.cells s)[16]? = some (.bool s.n) := fun s => rfl
 have c1 : ∀ s : Cs.St, (Cs.cells s)[17]? = some (.bool s.z) := fun s => rfl
 have c2 : ∀ s : Cs.St, (Cs.cells s)[18]? = some (.bool s.c) := fun s => rfl
 have c3 : ∀ s : Cs.St, (Cs.cells s)[19]? = some (.bool s.v) := fun s => rfl
 have d0 := fun s x => Cs.cells_sn s x
 have d1 := fun s x => Cs.cells_sz s x
 have d2 := fun s x => Cs.cells_sc s x
 have d3 := fun s x => Cs.cells_sv s x
 have hs1 := Cs.sgn_bd n n0 n1
 have hs2 := Cs.sgn_bd m m0 m1
 go_enter Tryz.func156, Tryz.ntmps156
 go_wp2_with (first | (go_at_call 171; first | ((with_reducible refine (csigned_any n _ n0 n1).mono ?_); rintro e w' ⟨rfl, rfl⟩) | ((with_reducible refine (csigned_any m _ m0 m1).mono ?_); rintro e w' ⟨rfl, rfl⟩)) | (go_at_call 168; refine (sub_any _ _ _).mono ?_; rintro e w' ⟨rfl, rfl⟩) | (go_at_call 170; refine (bit_any _ _ _).mono ?_; rintro e w' ⟨rfl, rfl⟩) | ((with_reducible refine wpList_load_st (hl _) ?_ ?_); exact rfl) | ((with_reducible apply wpList_store_st (hl3 _)); exact rfl; rw [setRow_alloc' _ _ _ _ _ (by simp)]))
 all_goals
  try simp only [Exit.inBlock, Exit.then]
  refine bp_state rfl rfl (hl2 _ _) rfl ⟨?_, by go_grown⟩
 all_goals first | rfl | (rename_i h; rw [show Cs.cmp s n m = ⟨s.r, s.pc, Wd.bit (Wd.sub n m) 31 == 1, n == m, decide (m ≤ n), true⟩ by simp [Cs.cmp, h]])

end Go.Proofs.YthciobjklhkkcaaGreat
end
section
namespace Go.Proofs.YthciobjklhkkcaaGreat.Th
open Go.RowKit

def by0 (n : Nat) : UInt8 := UInt8.ofNat ((n : Int) % 256).toNat
def by1 (n : Nat) : UInt8 := UInt8.ofNat ((n : Int) / 256).toNat
def b40 (n : Nat) : UInt8 := UInt8.ofNat ((n : Int) / 65536 % 256).toNat
def b41 (n : Nat) : UInt8 := UInt8.ofNat ((n : Int) / 16777216).toNat
def b42 (n : Nat) : UInt8 := UInt8.ofNat ((n : Int) % 256).toNat
def b43 (n : Nat) : UInt8 := UInt8.ofNat ((n : Int) / 256 % 256).toNat
end Go.Proofs.YthciobjklhkkcaaGreat.Th
end
