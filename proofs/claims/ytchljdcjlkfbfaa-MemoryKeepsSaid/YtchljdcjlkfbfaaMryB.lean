/-
  Package memory: the memory as it lies in the world; what asked and Region return.
-/
import Derived.Test.YtchljdcjlkfbfaaMryA
namespace Go.Proofs.Ytchljdcjlkfbfaa
open Go.ChangeShapes Go.WideShapes Go.ChangeAt Go.RowKit
set_option linter.unusedVariables false

/-- where a memory lies -/
structure My.Loc where
  p : Nat
  ra : Addr
  rc : Nat
  ba : Nat
  G : Nat → Nat
/-- the blocks of its bytes -/
def My.Loc.own (l : My.Loc) : Nat → Prop := fun b => ∃ k, k < 7 ∧ l.G k = b
structure MemAt (W : World) (l : My.Loc) (s : My.St) (M : Int → UInt8) : Prop where
  f0 : W.cell? ⟨l.p, 0, none⟩ = some (.slice (some l.ra) 7 l.rc)
  f1 : W.cell? ⟨l.p, 1, none⟩ = some (.slice (some ⟨l.ba, 0, none⟩) 7 7)
  regs : SliceC rgC 3 W (.slice (some l.ra) 7 l.rc) (My.sev s)
  row : ∀ k, k < 7 → W.cell? ⟨l.ba, k, none⟩ = some (.slice (some ⟨l.G k, 0, none⟩) (My.ln s k) (My.ln s k))
  bytes : ∀ k, k < 7 → RowAt W (l.G k) (My.row M (My.bs s k) (My.ln s k))
  np : ∀ k, k < 7 → l.G k ≠ l.p ∧ l.G k ≠ l.ra.block ∧ l.G k ≠ l.ba
  ne : ∀ i j, i < j → j < 7 → l.G i ≠ l.G j
theorem add_block (a : Addr) (n : Nat) : (a.add n).block = a.block := by unfold Addr.add; split <;> rfl
theorem MemAt.kept {W W' : World} {l : My.Loc} {s : My.St} {M : Int → UInt8} (h : MemAt W l s M) (hb : Below W.heap.size W W') : MemAt W' l s M :=
  ⟨by rw [hb.cell (cell_lt h.f0)]; exact h.f0, by rw [hb.cell (cell_lt h.f1)]; exact h.f1, h.regs.kept hb, fun k hk => by rw [hb.cell (cell_lt (h.row k hk))]; exact h.row k hk, fun k hk => (h.bytes k hk).kept hb, h.np, h.ne⟩
theorem MemAt.own_lt {W : World} {l : My.Loc} {s : My.St} {M : Int → UInt8} (h : MemAt W l s M) {b : Nat} (hb : l.own b) : b < W.heap.size := by
  obtain ⟨k, hk, rfl⟩ := hb
  exact (h.bytes k hk).lt
theorem MemAt.reg {W : World} {l : My.Loc} {s : My.St} {M : Int → UInt8} (h : MemAt W l s M) (k : Nat) (hk : k < 7) : OnC W (l.ra.add (k * 3)) (rgC ((My.sev s)[k]'hk)) := by
  obtain ⟨p', c', e', hat⟩ := h.regs
  obtain ⟨a2, hpa, hOn⟩ := hat k hk
  injection e' with ep en ec
  rw [hpa] at ep
  injection ep with ep
  subst ep
  exact hOn
/-- a row is laid anew -/
theorem MemAt.set {W : World} {l : My.Loc} {s : My.St} {M M' : Int → UInt8} (h : MemAt W l s M) {k : Nat} (hk : k < 7) (hM : ∀ j, j < 7 → j ≠ k → My.row M' (My.bs s j) (My.ln s j) = My.row M (My.bs s j) (My.ln s j)) {cs : Array Value} (hcs : cs = (Lib.byteCells (My.row M' (My.bs s k) (My.ln s k))).toArray) :
    MemAt (W.setRow (l.G k) cs) l s M' := by
  subst hcs
  obtain ⟨n1, n2, n3⟩ := h.np k hk
  refine ⟨by rw [cell_setRow_other _ _ _ _ (fun e => n1 e.symm)]; exact h.f0, by rw [cell_setRow_other _ _ _ _ (fun e => n1 e.symm)]; exact h.f1, ?_, fun j hj => by rw [cell_setRow_other _ _ _ _ (fun e => n3 e.symm)]; exact h.row j hj, fun j hj => ?_, h.np, h.ne⟩
  · refine ⟨some l.ra, l.rc, rfl, fun j hj => ⟨l.ra, rfl, fun i u hu => ?_⟩⟩
    rw [cell_setRow_other _ _ _ _ (fun e => n2 (by rw [← e, add_block, add_block]))]
    exact h.reg j hj i u hu
  · by_cases e : j = k
    · subst e
      exact setRow_heap _ _ _ _ _ _ (h.bytes j hj)
    · unfold RowAt
      rw [setRow_other _ _ _ _ (by rcases (by omega : j < k ∨ k < j) with x | x; exact h.ne j k x hk; exact (h.ne k j x hj).symm), hM j hj e]
      exact h.bytes j hj
theorem Mm.sev_wfs {s : My.St} (h : My.good s) : Mm.wfs (My.sev s) := fun k hk => by
  have hb := My.bs_bd h k hk
  rw [My.bs_at s k hk, My.ln_at h k hk]
  omega
theorem Mm.sev_pos {s : My.St} (h : My.good s) : ∀ k (hk : k < (My.sev s).length), 0 ≤ (My.sev s)[k].base := fun k hk => by
  have hb := My.bs_bd h k hk
  rw [My.bs_at s k hk]
  omega
/-- Find's contract of a memory's regions -/
theorem find_mem {W : World} {l : My.Loc} {s : My.St} {M : Int → UInt8} (h : MemAt W l s M) (hg : My.good s) (a n : Int) (sw : Bool) (ha : a ≤ 9223372036854775807) :
    Calls Try.prog 30 #[.slice (some l.ra) 7 l.rc, .int .i64 a, .int .i64 n, .bool sw] W fun e w' => e = .returned (.tuple #[.int .i64 (Mm.find (My.sev s) a n sw).1, .int .i64 (Mm.find (My.sev s) a n sw).2]) ∧ Below W.heap.size W w' :=
  find_any (some l.ra) 7 l.rc (My.sev s) a n sw W (Lib.hid rfl) (by omega) (Lib.hid h.regs) (Lib.hid (Mm.sev_wfs hg)) (Lib.hid ha)
set_option maxHeartbeats 4000000 in
set_option maxRecDepth 100000 in
theorem asked_nil (a n : Int) (sw : Bool) (w : World) :
    Calls Try.prog 24 #[.pointer none, .int .i64 a, .int .i64 n, .bool sw] w fun e w' => e = .returned (.tuple #[.slice none 0 0, .int .i64 1]) ∧ Below w.heap.size w w' := by
  go_enter Try.func24, Try.ntmps24
  go_wp2
  exact bodyPost_ret (v := .tuple #[.slice none 0 0, .int .i64 1]) (by simp [results, Try.results24, go_sem]) rfl ⟨rfl, Below.refl _ _⟩
set_option maxHeartbeats 4000000 in
set_option maxRecDepth 100000 in
theorem asked_no (l : My.Loc) (s : My.St) (M : Int → UInt8) (a n E : Int) (sw : Bool) (w : World) (hm : Hid (MemAt w l s M)) (hg : Hid (My.good s)) (ha : Hid (a ≤ 9223372036854775807)) (hE : Hid (My.fe s a n sw = E)) (h0 : ¬ E = 0) :
    Calls Try.prog 24 #[.pointer (some ⟨l.p, 0, none⟩), .int .i64 a, .int .i64 n, .bool sw] w fun e w' => e = .returned (.tuple #[.slice none 0 0, .int .i64 E]) ∧ Below w.heap.size w w' := by
  have x0 := hm.out.f0
  obtain ⟨X, hX⟩ : ∃ X, (Mm.find (My.sev s) a n sw).1 = X := ⟨_, rfl⟩
  have C : Hid (Calls Try.prog 30 #[.slice (some l.ra) 7 l.rc, .int .i64 a, .int .i64 n, .bool sw] w fun e w' => e = .returned (.tuple #[.int .i64 X, .int .i64 E]) ∧ Below w.heap.size w w') := Lib.hid (by
    have h := find_mem hm.out hg.out a n sw ha.out
    rw [hX] at h
    have e : (Mm.find (My.sev s) a n sw).2 = E := hE.out
    rw [e] at h
    exact h)
  clear hX
  go_enter Try.func24, Try.ntmps24
  go_wp2_with (go_at_call 30; refine C.out.mono ?_; rintro e w1 ⟨rfl, hb1⟩; have HB := Lib.hid hb1; clear hb1)
  exact bodyPost_ret (v := .tuple #[.slice none 0 0, .int .i64 E]) (by simp [results, Try.results24, go_sem]) rfl ⟨rfl, HB.out⟩
set_option maxHeartbeats 4000000 in
set_option maxRecDepth 100000 in
theorem asked_ok (l : My.Loc) (s : My.St) (M : Int → UInt8) (k o m : Nat) (sw : Bool) (w : World) (hm : Hid (MemAt w l s M)) (hg : Hid (My.good s)) (hk : k < 7) (ho : Hid (o + m ≤ My.ln s k)) (h1 : 1 ≤ m) (h4 : m ≤ 4) (hF : Hid (Mm.find (My.sev s) (My.bs s k + (o : Nat)) (m : Nat) sw = ((k : Int), 0))) :
    Calls Try.prog 24 #[.pointer (some ⟨l.p, 0, none⟩), .int .i64 (My.bs s k + (o : Nat)), .int .i64 (m : Nat), .bool sw] w fun e w' => (∃ c, e = .returned (.tuple #[.slice (some ⟨l.G k, o, none⟩) m c, .int .i64 0])) ∧ Below w.heap.size w w' := by
  have x0 := hm.out.f0
  have hbd := My.bs_bd hg.out k hk
  have C : Hid (Calls Try.prog 30 #[.slice (some l.ra) 7 l.rc, .int .i64 (My.bs s k + (o : Nat)), .int .i64 (m : Nat), .bool sw] w fun e w' => e = .returned (.tuple #[.int .i64 (k : Int), .int .i64 0]) ∧ Below w.heap.size w w') := Lib.hid (by
    have h := find_mem hm.out hg.out (My.bs s k + (o : Nat)) (m : Nat) sw (by have := ho.out; omega)
    rw [hF.out] at h
    exact h)
  have HX : Hid (∀ w' : World, Below w.heap.size w w' → w'.cell? ⟨l.p, 0, none⟩ = some (.slice (some l.ra) 7 l.rc) ∧ w'.cell? ⟨l.p, 1, none⟩ = some (.slice (some ⟨l.ba, 0, none⟩) 7 7) ∧ w'.cell? (l.ra.add (k * 3)) = some (.int .i64 (My.bs s k)) ∧ w'.cell? ⟨l.ba, k, none⟩ = some (.slice (some ⟨l.G k, 0, none⟩) (My.ln s k) (My.ln s k))) := Lib.hid fun w' hb => by
    have h := hm.out.kept hb
    refine ⟨h.f0, h.f1, ?_, h.row k hk⟩
    have h0 := h.reg k hk 0 _ rfl
    rw [add_zero'] at h0
    rw [← My.bs_at s k hk]
    exact h0
  have hk7 : (k : Int) < 7 := by omega
  have hk0 : (0 : Int) ≤ (k : Int) := by omega
  have hw1 : wrap64 (My.bs s k + (o : Nat) - My.bs s k) = (o : Nat) := by have := ho.out; unfold wrap64; omega
  have hw2 : wrap64 ((o : Int) + (m : Nat)) = ((o + m : Nat) : Int) := by have := ho.out; unfold wrap64; omega
  have HO := ho
  generalize hbs : My.bs s k = bb at *
  generalize hln : My.ln s k = ln at *
  have ho' := HO.out
  have hne : ¬ ln = o := by omega
  clear hbs hln hbd hF ho HO
  go_enter Try.func24, Try.ntmps24
  go_wp2_with (go_at_call 30; refine C.out.mono ?_; rintro e w1 ⟨rfl, hb1⟩; obtain ⟨y0, y1, y2, y3⟩ := HX.out _ hb1; have HB := Lib.hid hb1; clear hb1)
  exact bodyPost_ret (v := .tuple #[.slice (some ⟨l.G k, o, none⟩) m (ln - o), .int .i64 0]) (by simp [results, Try.results24, go_sem]) rfl ⟨⟨_, rfl⟩, HB.out⟩
theorem str_row (l : List UInt8) : strOfNums (l.map fun b => (b.toNat : Int)) = ⟨l.toArray⟩ := by
  simp [strOfNums, List.map_map, Function.comp_def]
theorem row_cell {W : World} {g : Nat} {l : List UInt8} (h : RowAt W g l) (j : Nat) (hj : j < l.length) : W.cell? ⟨g, j, none⟩ = some (.int .u8 (l[j].toNat : Int)) := by
  unfold RowAt at h
  simp [World.cell?, h, Lib.byteCells, hj]
theorem run_row {W : World} {g : Nat} {l : List UInt8} (h : RowAt W g l) (n c : Nat) (hn : n = l.length) :
    (convert 56 9 (.slice (some ⟨g, 0, none⟩) n c)).run Try.prog W = .ok (.string ⟨l.toArray⟩) W := by
  have h2 := run_convert_bytes_arg (P := Try.prog) W 56 5 Try.underlying56 Try.underlying5 g 0 n c (l.map fun b => (b.toNat : Int)) (by simp [hn]) (fun i hi => by
    rw [Nat.zero_add, row_cell h i (by omega), List.getD_eq_getElem?_getD, List.getElem?_map, List.getElem?_eq_getElem (by omega)]; rfl) 9 Try.underlying9
  rw [h2, str_row]
set_option maxHeartbeats 4000000 in
theorem region_nil (k : Int) (w : World) :
    Calls Try.prog 13 #[.pointer none, .int .i64 k] w fun e w' => e = .returned (.tuple #[.string ByteArray.empty, .int .i64 1]) ∧ Below w.heap.size w w' := by
  go_enter Try.func13, Try.ntmps13
  go_wp2
  exact bodyPost_ret (v := .tuple #[.string ByteArray.empty, .int .i64 1]) (by simp [results, Try.results13, go_sem]; rfl) rfl ⟨rfl, Below.refl _ _⟩
set_option maxHeartbeats 4000000 in
set_option maxRecDepth 100000 in
theorem region_no (l : My.Loc) (s : My.St) (M : Int → UInt8) (k : Int) (w : World) (hm : Hid (MemAt w l s M)) (hk : k < 0 ∨ 7 ≤ k) :
    Calls Try.prog 13 #[.pointer (some ⟨l.p, 0, none⟩), .int .i64 k] w fun e w' => e = .returned (.tuple #[.string ByteArray.empty, .int .i64 2]) ∧ Below w.heap.size w w' := by
  have x1 := hm.out.f1
  by_cases h0 : k < 0
  · clear hk
    go_enter Try.func13, Try.ntmps13
    go_wp2
    exact bodyPost_ret (v := .tuple #[.string ByteArray.empty, .int .i64 2]) (by simp [results, Try.results13, go_sem]; rfl) rfl ⟨rfl, Below.refl _ _⟩
  · have h7 : 7 ≤ k := by omega
    clear hk
    go_enter Try.func13, Try.ntmps13
    go_wp2
    exact bodyPost_ret (v := .tuple #[.string ByteArray.empty, .int .i64 2]) (by simp [results, Try.results13, go_sem]; rfl) rfl ⟨rfl, Below.refl _ _⟩
set_option maxHeartbeats 4000000 in
set_option maxRecDepth 100000 in
theorem region_ok (l : My.Loc) (s : My.St) (M : Int → UInt8) (k : Nat) (w : World) (hm : Hid (MemAt w l s M)) (hk : k < 7) :
    Calls Try.prog 13 #[.pointer (some ⟨l.p, 0, none⟩), .int .i64 (k : Nat)] w fun e w' => e = .returned (.tuple #[.string ⟨(My.row M (My.bs s k) (My.ln s k)).toArray⟩, .int .i64 0]) ∧ Below w.heap.size w w' := by
  have x1 := hm.out.f1
  have x2 := hm.out.row k hk
  have hk0 : ¬ (k : Int) < 0 := by omega
  have hk1 : (0 : Int) ≤ (k : Int) := by omega
  have hk7 : ¬ (7 : Int) ≤ (k : Int) := by omega
  have hk8 : (k : Int) < 7 := by omega
  have hr := run_row (hm.out.bytes k hk) (My.ln s k) (My.ln s k) (My.row_len _ _ _).symm
  generalize My.row M (My.bs s k) (My.ln s k) = R at *
  generalize My.ln s k = n at *
  go_enter Try.func13, Try.ntmps13
  go_wp2
  exact bodyPost_ret (v := .tuple #[.string ⟨R.toArray⟩, .int .i64 0]) (by simp [results, Try.results13, go_sem]) rfl ⟨rfl, Below.refl _ _⟩
end Go.Proofs.Ytchljdcjlkfbfaa
