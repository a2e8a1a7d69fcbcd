/-
  What strings.Clone, and outcome's Of, return.
-/
import Derived.Shelf.Strconv.Clone
import Derived.Test.YtpfljdcahhhggaaOcB
namespace Go.Proofs.Ytpfljdcahhhggaa
open Go.ChangeShapes Go.WideShapes Go.ChangeAt Go.RowKit
set_option linter.unusedVariables false
set_option linter.unusedSimpArgs false

def clRen : Go.Shelf.Ren := ⟨fun | 316 => 20 | n => n, fun | 0 => 0 | 3 => 3 | 4 => 4 | 5 => 5 | 9 => 9 | 37 => 44 | 127 => 45 | n => n, fun | n => n⟩
theorem clLays : Go.Proofs.LaysM.n316 Try.prog clRen := {
  mixed := by kernel_rfl
  f316 := Try.func20.trans (congrArg some (by kernel_rfl))
  t0 := Try.underlying0
  a0 := Try.isAgg0
  z0 := Try.sizeOf0
  v0 := Try.zeroValue0
  i0 := by kernel_rfl
  t3 := Try.underlying3
  a3 := Try.isAgg3
  z3 := Try.sizeOf3
  v3 := Try.zeroValue3
  i3 := by kernel_rfl
  t4 := Try.underlying4
  a4 := Try.isAgg4
  z4 := Try.sizeOf4
  v4 := Try.zeroValue4
  i4 := by kernel_rfl
  t5 := Try.underlying5
  a5 := Try.isAgg5
  z5 := Try.sizeOf5
  v5 := Try.zeroValue5
  i5 := by kernel_rfl
  t9 := Try.underlying9
  a9 := Try.isAgg9
  z9 := Try.sizeOf9
  v9 := Try.zeroValue9
  i9 := by kernel_rfl
  t37 := Try.underlying44
  a37 := Try.isAgg44
  z37 := Try.sizeOf44
  v37 := Try.zeroValue44
  i37 := by kernel_rfl
  t127 := Try.underlying45
  a127 := Try.isAgg45
  z127 := Try.sizeOf45
  v127 := Try.zeroValue45
  i127 := by kernel_rfl }
theorem sclone_any (s : ByteArray) (w : World) (h : s.size ≤ 281474976710656) :
    Calls Try.prog 20 #[.string s] w fun e w' => e = .returned (.string s) ∧ Below w.heap.size w w' := Any.stringslite_Clone clLays s w h
set_option maxHeartbeats 2000000 in
theorem clone_any (s : ByteArray) (w : World) (h : s.size ≤ 281474976710656) :
    Calls Try.prog 15 #[.string s] w fun e w' => e = .returned (.string s) ∧ Below w.heap.size w w' := by
  have C := Lib.hid fun w => sclone_any s w h
  clear h
  go_enter Try.func15, Try.ntmps15
  go_wp2_with (go_at_call 20; refine (C.out _).mono ?_; rintro e w1 ⟨rfl, hb1⟩)
  go_ret
  exact ⟨rfl, hb1⟩
theorem cellOf {W : World} {b : Nat} {cs : Array Value} {t : TypeId} (h : W.heap[b]? = some (.cells cs t (0, 0))) (j : Nat) (v : Value) (hv : cs[j]? = some v) : W.cell? ⟨b, j, none⟩ = some v := by
  unfold World.cell?
  show (match W.heap[b]? with | some (.cells c _ _) => c[j]? | _ => none) = some v
  rw [h]
  exact hv
theorem openOf {W : World} {b : Nat} {cs : Array Value} {t : TypeId} (h : W.heap[b]? = some (.cells cs t (0, 0))) (j : Nat) : W.frozen? ⟨b, j, none⟩ = false := by simp [World.frozen?, h]
theorem heap_on {W W' : World} {b : Nat} {o : Obj} (h : W.heap[b]? = some o) (hb : Below W.heap.size W W') : W'.heap[b]? = some o := by
  rw [hb.block b (Array.getElem?_eq_some_iff.1 h).1]; exact h
theorem heap_alloc_old {W : World} {b : Nat} {o : Obj} (h : W.heap[b]? = some o) (o' : Obj) : (W.alloc o').heap[b]? = some o := heap_on h ((Below.refl _ _).alloc (Nat.le_refl _) o')
theorem two_on {w w1 : World} {A B : Obj} (hb : Below ((w.alloc A).alloc B).heap.size ((w.alloc A).alloc B) w1) : w1.heap[w.heap.size]? = some A ∧ w1.heap[w.heap.size + 1]? = some B ∧ Below w.heap.size w w1 := by
  refine ⟨heap_on (heap_alloc_old (heap_alloc_new w A) B) hb, ?_, boxed_below (o := A) ?_⟩
  · have h := heap_on (heap_alloc_new (w.alloc A) B) hb
    rw [show (w.alloc A).heap.size = w.heap.size + 1 from Array.size_push _] at h
    exact h
  · exact boxed_below hb
theorem one_on {w w1 : World} {A : Obj} (hb : Below (w.alloc A).heap.size (w.alloc A) w1) : w1.heap[w.heap.size]? = some A ∧ Below w.heap.size w w1 := ⟨heap_on (heap_alloc_new w A) hb, boxed_below hb⟩
theorem heap_set_other {W : World} {b : Nat} {o : Obj} (h : W.heap[b]? = some o) (a : Addr) (v : Value) (hne : b ≠ a.block) : (W.setCell a v).heap[b]? = some o := by rw [Below.heap_setCell _ _ _ _ hne]; exact h
theorem set_two {W : World} {b : Nat} {x0 x1 : Value} {t : TypeId} (h : W.heap[b]? = some (.cells #[x0, x1] t (0, 0))) (v0 v1 : Value) : ((W.setCell ⟨b, 0, none⟩ v0).setCell ⟨b, 1, none⟩ v1).heap[b]? = some (.cells #[v0, v1] t (0, 0)) := heap_setCell_same _ b 1 _ _ v1 (heap_setCell_same _ b 0 _ _ v0 h)
theorem out_if (h : Bool) (co su : Int) (o : ByteArray) : Oc.out h co o = if Oc.kind h co su = 1 then o else ⟨#[]⟩ := by
  unfold Oc.out Oc.kind
  cases h
  · rw [if_neg (fun x => nomatch x.1), if_pos rfl, if_neg (by decide)]
  · by_cases h1 : co = 3235799053
    · subst h1
      rw [if_pos ⟨rfl, rfl⟩, if_neg (c := true = false) (by decide), if_pos rfl, if_pos rfl]
    · rw [if_neg (fun x => h1 x.2), if_neg (c := true = false) (by decide), if_neg h1]
      split <;> rw [if_neg (by decide)]
set_option maxHeartbeats 4000000 in
theorem of_any (h : Bool) (st cy ha co su : Int) (o a b : ByteArray) (w : World) (ho : o.size ≤ 281474976710656) :
    Calls Try.prog 6 #[.agg #[.bool h, .int .i64 st, .int .i64 cy, .int .i64 ha, .int .i64 co, .int .i64 su, .string o, .string a, .string b]] w fun e w' => e = .returned (.agg #[.int .i64 (Oc.kind h co su), .string (Oc.out h co o)]) ∧ Below w.heap.size w w' := by
  have CK := Lib.hid fun w => kind_any h st cy ha co su o a b w
  have CC := Lib.hid fun w => clone_any o w ho
  clear ho
  have HO := Lib.hid (out_if h co su o)
  rw [HO.out]
  clear HO
  generalize Oc.kind h co su = k at *
  by_cases h1 : k = 1
  · subst h1
    rw [if_pos rfl]
    go_enter Try.func6, Try.ntmps6
    go_wp2_with (first
      | (go_at_call 14; refine (CK.out _).mono ?_; rintro e w1 ⟨rfl, hb1⟩; obtain ⟨hx, hy, hb1'⟩ := two_on hb1; have b6 := fun o' => cellOf (heap_alloc_old hx o') 6 _ rfl; have r0 := cellOf hy 0 _ rfl; have r1 := cellOf hy 1 _ rfl; have f0 := openOf hy 0; have f1 := openOf hy 1; have u0 := fun o' => cellOf (heap_alloc_old hy o') 0 _ rfl; have u1 := fun o' => cellOf (heap_alloc_old hy o') 1 _ rfl; have v0 := fun o' => openOf (heap_alloc_old hy o') 0; have v1 := fun o' => openOf (heap_alloc_old hy o') 1; have HY := Lib.hid hy; have HB1 := Lib.hid hb1'; clear hb1 hb1' hx hy)
      | (go_at_call 15; refine (CC.out _).mono ?_; rintro e w2 ⟨rfl, hb2⟩; obtain ⟨hz, hb2'⟩ := one_on hb2; have hy := heap_on HY.out hb2'; have s0 := cellOf hy 0 _ rfl; have s1 := cellOf hy 1 _ rfl; have g0 := openOf hy 0; have g1 := openOf hy 1; have z0 := cellOf hz 0 _ rfl; have z1 := cellOf hz 1 _ rfl; have k0 := openOf hz 0; have k1 := openOf hz 1; have hlt := (Array.getElem?_eq_some_iff.1 HY.out).1; have hs := fun v => heap_set_other hy ⟨w1.heap.size, 1, none⟩ v (Nat.ne_of_lt hlt); have t0 := fun v => cellOf (hs v) 0 _ rfl; have t1 := fun v => cellOf (hs v) 1 _ rfl; have q0 := fun v => openOf (hs v) 0; have q1 := fun v => openOf (hs v) 1; clear hs hlt; have HB3 := Lib.hid hb2'; have HB2 := Lib.hid (HB1.out.trans (hb2'.mono HB1.out.size)); clear hb2 hb2' hz hy))
    exact bodyPost_ret (results_cell_row Try.results6 _ _ _ _ _ _ _ rfl (set_two (heap_set_other (heap_on HY.out HB3.out) ⟨w1.heap.size, 1, none⟩ _ (Nat.ne_of_lt (Array.getElem?_eq_some_iff.1 HY.out).1)) _ _) Try.underlying25 rfl (by kernel_rfl)) rfl ⟨rfl, ((HB2.out.setCell HB1.out.size _).setCell (Nat.le_succ _) _).setCell (Nat.le_succ _) _⟩
  · rw [if_neg h1]
    go_enter Try.func6, Try.ntmps6
    go_wp2_with (first
      | (go_at_call 14; refine (CK.out _).mono ?_; rintro e w1 ⟨rfl, hb1⟩; obtain ⟨hx, hy, hb1'⟩ := two_on hb1; have b6 := fun o' => cellOf (heap_alloc_old hx o') 6 _ rfl; have r0 := cellOf hy 0 _ rfl; have r1 := cellOf hy 1 _ rfl; have f0 := openOf hy 0; have f1 := openOf hy 1; have u0 := fun o' => cellOf (heap_alloc_old hy o') 0 _ rfl; have u1 := fun o' => cellOf (heap_alloc_old hy o') 1 _ rfl; have v0 := fun o' => openOf (heap_alloc_old hy o') 0; have v1 := fun o' => openOf (heap_alloc_old hy o') 1; have HY := Lib.hid hy; have HB1 := Lib.hid hb1'; clear hb1 hb1' hx hy))
    exact bodyPost_ret (results_cell_row Try.results6 _ _ _ _ _ _ _ rfl (set_two (heap_alloc_old HY.out _) _ _) Try.underlying25 rfl (by kernel_rfl)) rfl ⟨rfl, ((HB1.out.alloc HB1.out.size _).setCell (Nat.le_succ _) _).setCell (Nat.le_succ _) _⟩
end Go.Proofs.Ytpfljdcahhhggaa
