/-
What find tells of a sign between two: the table, looked through.
-/
import Derived.Test.YtbnhegipdfkdgaaDoorP17a
namespace Go.Proofs.YtbnhegipdfkdgaaDoor
open Go.ChangeShapes Go.WideShapes Go.ChangeAt Go.RowKit
set_option linter.unusedVariables false
set_option linter.unusedSimpArgs false

theorem tabT : ∃ d, Tryd.prog.underlying 122 = some d ∧ d.isRow = true ∧ (Tryd.prog.info? 122).map (·.size) = some tabC.length := ⟨_, Tryd.underlying122, by kernel_rfl, by kernel_rfl⟩
theorem tab_0 (w : World) : (Instr.index 122 (.agg tabC.toArray) (.int .i64 0)).run Tryd.prog w = .ok (.agg #[.string (Lx.S [61, 61]), .int .i64 17, .int .i64 1]) w := by kernel_rfl
theorem tab_1 (w : World) : (Instr.index 122 (.agg tabC.toArray) (.int .i64 1)).run Tryd.prog w = .ok (.agg #[.string (Lx.S [33, 61]), .int .i64 18, .int .i64 1]) w := by kernel_rfl
theorem tab_2 (w : World) : (Instr.index 122 (.agg tabC.toArray) (.int .i64 2)).run Tryd.prog w = .ok (.agg #[.string (Lx.S [60]), .int .i64 19, .int .i64 1]) w := by kernel_rfl
theorem tab_3 (w : World) : (Instr.index 122 (.agg tabC.toArray) (.int .i64 3)).run Tryd.prog w = .ok (.agg #[.string (Lx.S [60, 61]), .int .i64 20, .int .i64 1]) w := by kernel_rfl
theorem tab_4 (w : World) : (Instr.index 122 (.agg tabC.toArray) (.int .i64 4)).run Tryd.prog w = .ok (.agg #[.string (Lx.S [62]), .int .i64 21, .int .i64 1]) w := by kernel_rfl
theorem tab_5 (w : World) : (Instr.index 122 (.agg tabC.toArray) (.int .i64 5)).run Tryd.prog w = .ok (.agg #[.string (Lx.S [62, 61]), .int .i64 22, .int .i64 1]) w := by kernel_rfl
theorem tab_6 (w : World) : (Instr.index 122 (.agg tabC.toArray) (.int .i64 6)).run Tryd.prog w = .ok (.agg #[.string (Lx.S [124]), .int .i64 12, .int .i64 2]) w := by kernel_rfl
theorem tab_7 (w : World) : (Instr.index 122 (.agg tabC.toArray) (.int .i64 7)).run Tryd.prog w = .ok (.agg #[.string (Lx.S [94]), .int .i64 13, .int .i64 3]) w := by kernel_rfl
theorem tab_8 (w : World) : (Instr.index 122 (.agg tabC.toArray) (.int .i64 8)).run Tryd.prog w = .ok (.agg #[.string (Lx.S [38]), .int .i64 11, .int .i64 4]) w := by kernel_rfl
theorem tab_9 (w : World) : (Instr.index 122 (.agg tabC.toArray) (.int .i64 9)).run Tryd.prog w = .ok (.agg #[.string (Lx.S [60, 60]), .int .i64 14, .int .i64 5]) w := by kernel_rfl
theorem tab_10 (w : World) : (Instr.index 122 (.agg tabC.toArray) (.int .i64 10)).run Tryd.prog w = .ok (.agg #[.string (Lx.S [62, 62]), .int .i64 15, .int .i64 5]) w := by kernel_rfl
theorem tab_11 (w : World) : (Instr.index 122 (.agg tabC.toArray) (.int .i64 11)).run Tryd.prog w = .ok (.agg #[.string (Lx.S [43]), .int .i64 8, .int .i64 6]) w := by kernel_rfl
theorem tab_12 (w : World) : (Instr.index 122 (.agg tabC.toArray) (.int .i64 12)).run Tryd.prog w = .ok (.agg #[.string (Lx.S [45]), .int .i64 9, .int .i64 6]) w := by kernel_rfl
theorem tab_13 (w : World) : (Instr.index 122 (.agg tabC.toArray) (.int .i64 13)).run Tryd.prog w = .ok (.agg #[.string (Lx.S [42]), .int .i64 10, .int .i64 7]) w := by kernel_rfl
theorem tab_get : ∀ (k : Nat) (x : List UInt8 × Nat × Int), Sx.tights[k]? = some x → ∀ w, (Instr.index 122 (.agg tabC.toArray) (.int .i64 (k : Int))).run Tryd.prog w = .ok (.agg #[.string (Lx.S x.1), .int .i64 x.2.2, .int .i64 x.2.1]) w
  | 0, x, hx, w => by cases hx; exact tab_0 w
  | 1, x, hx, w => by cases hx; exact tab_1 w
  | 2, x, hx, w => by cases hx; exact tab_2 w
  | 3, x, hx, w => by cases hx; exact tab_3 w
  | 4, x, hx, w => by cases hx; exact tab_4 w
  | 5, x, hx, w => by cases hx; exact tab_5 w
  | 6, x, hx, w => by cases hx; exact tab_6 w
  | 7, x, hx, w => by cases hx; exact tab_7 w
  | 8, x, hx, w => by cases hx; exact tab_8 w
  | 9, x, hx, w => by cases hx; exact tab_9 w
  | 10, x, hx, w => by cases hx; exact tab_10 w
  | 11, x, hx, w => by cases hx; exact tab_11 w
  | 12, x, hx, w => by cases hx; exact tab_12 w
  | 13, x, hx, w => by cases hx; exact tab_13 w
  | k + 14, x, hx, w => by cases hx
theorem enT : StructT 121 3 := ⟨⟨_, Tryd.underlying121⟩, by kernel_rfl⟩
theorem enZ : Zero 121 #[.string ⟨#[]⟩, .int .i64 0, .int .i64 0] := by unfold Zero; kernel_rfl
theorem fitsEn (s : ByteArray) (x y : Int) : Fits 3 #[.string s, .int .i64 x, .int .i64 y] := ⟨rfl, by simp [Value.oneCell']⟩
/-- the table, loaded whole -/
theorem wpl_tab {ops : Array Oper} {rest : List Oper} {o : Oper} {a : Act} {w w0 : World} {X : Nat → Prop} {I : List It} {Q : Exit → Act → World → Prop} (h : St X w0 w I) (ho : ldOf a o = some (122, .pointer (some ⟨3, 0, none⟩)))
    (k : wpList Tryd.prog ops Q rest (a.put o.dst (.agg tabC.toArray)) w) : wpList Tryd.prog ops Q (o :: rest) a w := by
  obtain ⟨hg, x, ho, hx⟩ := ldOf_eq ho
  obtain ⟨d, hu, hd, hi⟩ := tabT
  exact wpList_load_mid hg _ x ho 3 0 hx tabC d (fun j v hj => by rw [Nat.zero_add]; exact h.tab j v hj) hu hd hi k
/-- the rest of the table, looked through -/
def Sx.seek (l : List (List UInt8 × Nat × Int)) (s : List UInt8) : Nat × Int := match l.find? (fun x => x.1 == s) with | .some x => x.2 | none => (0, 0)
theorem Sx.seek_all (s : List UInt8) : Sx.seek Sx.tights s = Sx.tight s := rfl
theorem Sx.seek_hit {l : List (List UInt8 × Nat × Int)} {k : Nat} {x : List UInt8 × Nat × Int} {s : List UInt8} (hx : l[k]? = .some x) (h : x.1 = s) : Sx.seek (l.drop k) s = x.2 := by
  obtain ⟨hk, rfl⟩ := List.getElem?_eq_some_iff.1 hx
  rw [List.drop_eq_getElem_cons hk]
  unfold Sx.seek
  rw [List.find?_cons, show (l[k].1 == s) = true from by simpa using h]
theorem Sx.seek_miss {l : List (List UInt8 × Nat × Int)} {k : Nat} {x : List UInt8 × Nat × Int} {s : List UInt8} (hx : l[k]? = .some x) (h : x.1 ≠ s) : Sx.seek (l.drop (k + 1)) s = Sx.seek (l.drop k) s := by
  obtain ⟨hk, rfl⟩ := List.getElem?_eq_some_iff.1 hx
  rw [List.drop_eq_getElem_cons hk]
  unfold Sx.seek
  rw [List.find?_cons, show (l[k].1 == s) = false from by simpa using h]
theorem Sx.tights_len : Sx.tights.length = 14 := rfl
set_option maxHeartbeats 8000000 in
set_option maxRecDepth 100000 in
theorem find_fn (s : List UInt8) : Fn 80 #[.string (Lx.S s)] []
    fun e J => e = .returned (.tuple #[.int .i64 (Sx.tight s).2, .int .i64 (Sx.tight s).1]) ∧ J = [] := by
  intro w P hP hs
  have HS := Lib.hid (St.start hP hs)
  have hT : (Lx.S s).toList = s := by rw [Lib.toList_data]; rfl
  have HA := Lib.hid (Sx.seek_all s)
  clear hs hP
  go_enter Tryd.func80, Tryd.ntmps80
  go_wp2_with (first | (refine wpl_tab HS.out rfl ?_))
  go_loopw [7] (fun K wr => ∃ k : Nat, k ≤ 14 ∧ K = .int .i64 (k : Int) ∧ Hid (Sx.seek (Sx.tights.drop k) s = Sx.tight s ∧ St P w wr [])) (fun K _ => 14 - (intOf K).toNat)
  case atStart => exact ⟨0, Nat.zero_le _, rfl, Lib.hid ⟨rfl, HS.out⟩⟩
  case round =>
    obtain ⟨k, hk, rfl, HK⟩ := hrel
    by_cases hlt : k < 14
    · have hlt' : (k : Int) < 14 := by omega
      obtain ⟨x, hx⟩ : ∃ x, Sx.tights[k]? = some x := ⟨Sx.tights[k]'(by rw [Sx.tights_len]; exact hlt), List.getElem?_eq_getElem _⟩
      have E := tab_get k x hx
      have hT2 : (Lx.S x.1).toList = x.1 := by rw [Lib.toList_data]; rfl
      have HX := Lib.hid hx
      clear hx
      generalize htab : tabC.toArray = tb at E
      by_cases hp : x.1 = s
      · have HP := Lib.hid hp
        have g : (x.1 == s) = true := by simpa using hp
        clear hp
        go_wp2_with (first
          | (refine wpl_alloc0 HK.out.2 _ rfl enZ ?_; intro b1 w1 HS1)
          | (refine wpl_storeS HS1.out 0 rfl rfl enT rfl (fitsEn _ _ _) ?_; intro w2 hs; have HS2 := Lib.hid (show St _ _ _ (_ :: []) from hs.out); have c1 : w2.cell? ⟨b1, 1, none⟩ = some (.int .i64 x.2.2) := HS2.out.cell 0 rfl 1; have c2 : w2.cell? ⟨b1, 2, none⟩ = some (.int .i64 x.2.1) := HS2.out.cell 0 rfl 2; clear hs)
          | (refine wpl_load HS2.out 0 rfl rfl strO rfl ?_))
        go_region
        all_goals (try go_wp2)
        all_goals (go_ret2)
        all_goals (refine ⟨_, ⟨?_, rfl⟩, ((HS2.out.sel [] rfl).drew)⟩)
        all_goals (have h := HK.out.1; rw [Sx.seek_hit HX.out HP.out] at h; rw [← h]; rfl)
      · have HP := Lib.hid hp
        have g : (x.1 == s) = false := by simpa using hp
        clear hp
        go_wp2_with (first
          | (refine wpl_alloc0 HK.out.2 _ rfl enZ ?_; intro b1 w1 HS1)
          | (refine wpl_storeS HS1.out 0 rfl rfl enT rfl (fitsEn _ _ _) ?_; intro w2 hs; have HS2 := Lib.hid (show St _ _ _ (_ :: []) from hs.out); have c1 : w2.cell? ⟨b1, 1, none⟩ = some (.int .i64 x.2.2) := HS2.out.cell 0 rfl 1; have c2 : w2.cell? ⟨b1, 2, none⟩ = some (.int .i64 x.2.1) := HS2.out.cell 0 rfl 2; clear hs)
          | (refine wpl_load HS2.out 0 rfl rfl strO rfl ?_))
        exact ⟨⟨k + 1, by omega, by go_num, Lib.hid ⟨(Sx.seek_miss HX.out HP.out).trans HK.out.1, HS2.out.sel [] rfl⟩⟩, by simp [intOf]; omega⟩
    · have hge : ¬ (k : Int) < 14 := by omega
      have HE : Hid (Sx.tight s = (0, 0)) := Lib.hid (by
        rw [← HK.out.1, List.drop_of_length_le (by rw [Sx.tights_len]; omega)]; rfl)
      go_wp2
      go_ret2
      exact ⟨_, ⟨by rw [HE.out]; rfl, rfl⟩, HK.out.2⟩
end Go.Proofs.YtbnhegipdfkdgaaDoor
