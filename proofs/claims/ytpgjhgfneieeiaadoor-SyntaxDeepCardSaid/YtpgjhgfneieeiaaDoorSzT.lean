/-
  SyntaxDeep, as a function on parts.
-/
import Derived.Test.YtpgjhgfneieeiaaDoorP39a
import Derived.Test.YtpgjhgfneieeiaaDoorSzS
namespace Go.Proofs.YtpgjhgfneieeiaaDoor
open Go.ChangeShapes Go.WideShapes Go.ChangeAt Go.RowKit
set_option linter.unusedVariables false
set_option linter.unusedSimpArgs false

theorem Lx.S_cat (l m : List UInt8) : Lx.S l ++ Lx.S m = Lx.S (l ++ m) := by
  apply ByteArray.ext
  apply Array.ext'
  simp [Lx.S]
theorem dT_text (op cl : List UInt8) (n : Nat) : ((({ data := #[102, 110, 32, 102, 40, 41, 32, 123, 32, 120, 32, 61, 32] } : ByteArray) ++ Lx.S (Sx.rep op n)) ++ ({ data := #[49] } : ByteArray) ++ Lx.S (Sx.rep cl n)) ++ ({ data := #[59, 32, 125] } : ByteArray) = Lx.S (Sx.dT op cl n) := by
  show ((Lx.S Sx.dpre ++ Lx.S (Sx.rep op n)) ++ Lx.S [49] ++ Lx.S (Sx.rep cl n)) ++ Lx.S [59, 32, 125] = _
  rw [Lx.S_cat, Lx.S_cat, Lx.S_cat, Lx.S_cat]
  unfold Sx.dT
  simp only [List.append_assoc, List.singleton_append, List.cons_append, List.nil_append]
theorem dT_small (op cl : List UInt8) (n : Nat) (hn : n ≤ 200) (h1 : op.length ≤ 2) (h2 : cl.length ≤ 2) : (Lx.S (Sx.dT op cl n)).size ≤ 281474976710656 := by
  have h3 : n * op.length ≤ n * 2 := Nat.mul_le_mul (Nat.le_refl _) h1
  have h4 : n * cl.length ≤ n * 2 := Nat.mul_le_mul (Nat.le_refl _) h2
  rw [Lx.S_size, Sx.dT_len]
  omega
theorem rep_small (u : List UInt8) (n : Nat) (hn : n ≤ 200) (hu : u.length ≤ 2) : (Lx.S (Sx.rep u n)).size ≤ 1000 := by
  have h := Nat.mul_le_mul hn hu
  rw [Lx.S_size, Sx.rep_len]; omega
set_option maxHeartbeats 8000000 in
set_option maxRecDepth 100000 in
theorem deep_out (k n : Int) (h : n < 0 ∨ 200 < n) : Fn 5 #[.int .i64 k, .int .i64 n] [] fun e J => e = .returned (.bool true) ∧ J = [] := by
  intro w P hP h0
  have HS := Lib.hid (St.start hP h0)
  clear h0 hP
  by_cases h1 : n < 0
  · clear h
    go_enter Tryd.func5, Tryd.ntmps5
    go_wp2_with (first
      | (go_at_call 6; refine (St.call (pre := []) HS.out lives_Fn).mono ?_; rintro e w40 ⟨J, ⟨rfl, rfl⟩, hs⟩; simp only [List.cons_append, List.nil_append] at hs; have HS40 := Lib.hid hs; clear hs))
    go_ret
    exact ⟨_, ⟨rfl, rfl⟩, HS40.out.sel [] rfl⟩
  · have h2 := h.resolve_left h1
    clear h
    go_enter Tryd.func5, Tryd.ntmps5
    go_wp2_with (first
      | (go_at_call 6; refine (St.call (pre := []) HS.out lives_Fn).mono ?_; rintro e w40 ⟨J, ⟨rfl, rfl⟩, hs⟩; simp only [List.cons_append, List.nil_append] at hs; have HS40 := Lib.hid hs; clear hs))
    go_ret
    exact ⟨_, ⟨rfl, rfl⟩, HS40.out.sel [] rfl⟩
set_option maxHeartbeats 8000000 in
set_option maxRecDepth 100000 in
theorem deep_0g (n : Nat) (hn : n ≤ 200) (hb : 1 + n ≤ 64) : Fn 5 #[.int .i64 (0), .int .i64 (n : Int)] [] fun e J => e = .returned (.bool true) ∧ J = [] := by
  intro w P hP h0
  have HS := Lib.hid (St.start hP h0)
  obtain ⟨fs, hp⟩ := Sx.good0 n hb
  have C1 := Lib.hid (parse_is (Lx.S (Sx.dT [40] [41] n)) (dT_small _ _ n hn (by decide) (by decide)) hp)
  have hn0 : ¬ (n : Int) < 0 := by omega
  have hn2 : ¬ (200 : Int) < (n : Int) := by omega
  have HNN := Lib.hid hn
  have E1 : ∀ w, (Op.equalIn 10000 28 (.agg #[.int .i64 0, .int .i64 0]) (.agg #[.int .i64 0, .int .i64 0])).run Tryd.prog w = .ok true w := fun w => bad_eq 0 0 0 0 w
  have hbI : ¬ (64 : Int) < 1 + (n : Int) := by omega
  clear h0 hP hp hn hb
  go_enter Tryd.func5, Tryd.ntmps5
  go_wp2
  go_loopw [5, 6, 7] (fun A Z K wr => ∃ j : Nat, j ≤ n ∧ A = .string (Lx.S (Sx.rep [40] j)) ∧ Z = .string (Lx.S (Sx.rep [41] j)) ∧ K = .int .i64 (j : Int) ∧ Hid (St P w wr [])) (fun _ _ K _ => n - (intOf K).toNat)
  case atStart => exact ⟨0, Nat.zero_le _, rfl, rfl, rfl, Lib.hid HS.out⟩
  case round =>
    obtain ⟨j, hj, rfl, rfl, rfl, HST⟩ := hrel
    by_cases hlt : j < n
    · have hltI : (j : Int) < (n : Int) := by omega
      have a1 : Lx.S (Sx.rep [40] j) ++ (⟨#[40]⟩ : ByteArray) = Lx.S (Sx.rep [40] (j + 1)) := by rw [← Sx.rep_comm]; exact Lx.S_cat _ _
      have a2 : (⟨#[41]⟩ : ByteArray) ++ Lx.S (Sx.rep [41] j) = Lx.S (Sx.rep [41] (j + 1)) := Lx.S_cat _ _
      have s1 : (Lx.S (Sx.rep [40] j)).size ≤ 1000 := rep_small _ _ (by have := HNN.out; omega) (by decide)
      have s2 : (Lx.S (Sx.rep [41] j)).size ≤ 1000 := rep_small _ _ (by have := HNN.out; omega) (by decide)
      clear E1 C1
      go_wp2
      try any_goals (exfalso; omega)
      exact ⟨⟨j + 1, by omega, by rw [← a1], by rw [← a2], by have := HNN.out; go_num, HST⟩, by simp [intOf]; omega⟩
    · have hge : ¬ (j : Int) < (n : Int) := by omega
      obtain rfl : j = n := by omega
      have htx := dT_text [40] [41] j
      have s1 : (Lx.S (Sx.rep [40] j)).size ≤ 1000 := rep_small _ _ (by have := HNN.out; omega) (by decide)
      have s2 : (Lx.S (Sx.rep [41] j)).size ≤ 1000 := rep_small _ _ (by have := HNN.out; omega) (by decide)
      clear hlt hj
      go_wp2_with (first
        | (go_at_call 7; refine (St.call (pre := []) HST.out C1.out).mono ?_; rintro e w1 ⟨J, ⟨q, c, rfl, rfl⟩, hs⟩; simp only [List.cons_append, List.nil_append] at hs; have HS1 := Lib.hid hs; clear hs HST)
        | (first | (refine wpl_alloc HS1.out _ rfl pgZ ?_; intro b5 w2 HS2; clear HS1) | (refine wpl_alloc HS2.out _ rfl bdZ ?_; intro b6 w3 HS3; clear HS2))
        | (first | (refine wpl_storeS HS3.out 2 rfl rfl pgT rfl fitsG ?_; intro w4 hs; have HS4 := Lib.hid (show St _ _ _ (_ :: _ :: _ :: []) from hs.out); clear hs HS3) | (refine wpl_storeS HS4.out 1 rfl rfl badT rfl (fitsB _ _) ?_; intro w5 hs; have HS5 := Lib.hid (show St _ _ _ (_ :: _ :: _ :: []) from hs.out); clear hs HS4; have c0 : w5.cell? ⟨b6, 0, none⟩ = some (.int .i64 0) := HS5.out.cell 1 rfl 0; have c1 : w5.cell? ⟨b6, 1, none⟩ = some (.int .i64 0) := HS5.out.cell 1 rfl 1)))
      try any_goals (exfalso; omega)
      go_at_call 6
      refine (St.call (pre := []) HS5.out lives_Fn).mono ?_
      rintro e w40 ⟨J, ⟨rfl, rfl⟩, hs⟩
      simp only [List.cons_append, List.nil_append] at hs
      have HS40 := Lib.hid hs
      clear hs
      simp only []
      clear E1 c0 c1 C1
      go_at_K
      go_wp2
      go_ret
      exact ⟨_, ⟨rfl, rfl⟩, HS40.out.sel [] rfl⟩
set_option maxHeartbeats 8000000 in
set_option maxRecDepth 100000 in
theorem deep_0b (n : Nat) (hn : n ≤ 200) (hb : ¬ 1 + n ≤ 64) : Fn 5 #[.int .i64 (0), .int .i64 (n : Int)] [] fun e J => e = .returned (.bool true) ∧ J = [] := by
  intro w P hP h0
  have HS := Lib.hid (St.start hP h0)
  have hp := Sx.bad0 n hb hn
  have C1 := Lib.hid (parse_no (Lx.S (Sx.dT [40] [41] n)) (dT_small _ _ n hn (by decide) (by decide)) hp)
  have hn0 : ¬ (n : Int) < 0 := by omega
  have hn2 : ¬ (200 : Int) < (n : Int) := by omega
  have HNN := Lib.hid hn
  have E1 : ∀ w, (Op.equalIn 10000 28 (.agg #[.int .i64 11, .int .i64 76]) (.agg #[.int .i64 11, .int .i64 76])).run Tryd.prog w = .ok true w := fun w => bad_eq 11 76 11 76 w
  have hbI : (64 : Int) < 1 + (n : Int) := by omega
  clear h0 hP hp hn hb
  go_enter Tryd.func5, Tryd.ntmps5
  go_wp2
  go_loopw [5, 6, 7] (fun A Z K wr => ∃ j : Nat, j ≤ n ∧ A = .string (Lx.S (Sx.rep [40] j)) ∧ Z = .string (Lx.S (Sx.rep [41] j)) ∧ K = .int .i64 (j : Int) ∧ Hid (St P w wr [])) (fun _ _ K _ => n - (intOf K).toNat)
  case atStart => exact ⟨0, Nat.zero_le _, rfl, rfl, rfl, Lib.hid HS.out⟩
  case round =>
    obtain ⟨j, hj, rfl, rfl, rfl, HST⟩ := hrel
    by_cases hlt : j < n
    · have hltI : (j : Int) < (n : Int) := by omega
      have a1 : Lx.S (Sx.rep [40] j) ++ (⟨#[40]⟩ : ByteArray) = Lx.S (Sx.rep [40] (j + 1)) := by rw [← Sx.rep_comm]; exact Lx.S_cat _ _
      have a2 : (⟨#[41]⟩ : ByteArray) ++ Lx.S (Sx.rep [41] j) = Lx.S (Sx.rep [41] (j + 1)) := Lx.S_cat _ _
      have s1 : (Lx.S (Sx.rep [40] j)).size ≤ 1000 := rep_small _ _ (by have := HNN.out; omega) (by decide)
      have s2 : (Lx.S (Sx.rep [41] j)).size ≤ 1000 := rep_small _ _ (by have := HNN.out; omega) (by decide)
      clear E1 C1
      go_wp2
      try any_goals (exfalso; omega)
      exact ⟨⟨j + 1, by omega, by rw [← a1], by rw [← a2], by have := HNN.out; go_num, HST⟩, by simp [intOf]; omega⟩
    · have hge : ¬ (j : Int) < (n : Int) := by omega
      obtain rfl : j = n := by omega
      have htx := dT_text [40] [41] j
      have s1 : (Lx.S (Sx.rep [40] j)).size ≤ 1000 := rep_small _ _ (by have := HNN.out; omega) (by decide)
      have s2 : (Lx.S (Sx.rep [41] j)).size ≤ 1000 := rep_small _ _ (by have := HNN.out; omega) (by decide)
      clear hlt hj
      go_wp2_with (first
        | (go_at_call 7; refine (St.call (pre := []) HST.out C1.out).mono ?_; rintro e w1 ⟨J, ⟨rfl, rfl⟩, hs⟩; simp only [List.cons_append, List.nil_append] at hs; have HS1 := Lib.hid hs; clear hs HST)
        | (first | (refine wpl_alloc0 HS1.out _ rfl pgZ ?_; intro b5 w2 HS2; clear HS1) | (refine wpl_alloc HS2.out _ rfl bdZ ?_; intro b6 w3 HS3; clear HS2))
        | (first | (refine wpl_storeS HS3.out 0 rfl rfl pgT rfl fitsG ?_; intro w4 hs; have HS4 := Lib.hid (show St _ _ _ (_ :: _ :: []) from hs.out); clear hs HS3) | (refine wpl_storeS HS4.out 1 rfl rfl badT rfl (fitsB _ _) ?_; intro w5 hs; have HS5 := Lib.hid (show St _ _ _ (_ :: _ :: []) from hs.out); clear hs HS4; have c0 : w5.cell? ⟨b6, 0, none⟩ = some (.int .i64 11) := HS5.out.cell 1 rfl 0; have c1 : w5.cell? ⟨b6, 1, none⟩ = some (.int .i64 76) := HS5.out.cell 1 rfl 1)))
      try any_goals (exfalso; omega)
      go_at_call 6
      refine (St.call (pre := []) HS5.out lives_Fn).mono ?_
      rintro e w40 ⟨J, ⟨rfl, rfl⟩, hs⟩
      simp only [List.cons_append, List.nil_append] at hs
      have HS40 := Lib.hid hs
      clear hs
      simp only []
      clear E1 c0 c1 C1
      go_at_K
      go_wp2
      go_ret
      exact ⟨_, ⟨rfl, rfl⟩, HS40.out.sel [] rfl⟩
set_option maxHeartbeats 8000000 in
set_option maxRecDepth 100000 in
theorem deep_1g (n : Nat) (hn : n ≤ 200) (hb : 1 + n ≤ 64) : Fn 5 #[.int .i64 (1), .int .i64 (n : Int)] [] fun e J => e = .returned (.bool true) ∧ J = [] := by
  intro w P hP h0
  have HS := Lib.hid (St.start hP h0)
  obtain ⟨fs, hp⟩ := Sx.good1 n hb
  have C1 := Lib.hid (parse_is (Lx.S (Sx.dT [45] [] n)) (dT_small _ _ n hn (by decide) (by decide)) hp)
  have hn0 : ¬ (n : Int) < 0 := by omega
  have hn2 : ¬ (200 : Int) < (n : Int) := by omega
  have HNN := Lib.hid hn
  have E1 : ∀ w, (Op.equalIn 10000 28 (.agg #[.int .i64 0, .int .i64 0]) (.agg #[.int .i64 0, .int .i64 0])).run Tryd.prog w = .ok true w := fun w => bad_eq 0 0 0 0 w
  have hbI : ¬ (64 : Int) < 1 + (n : Int) := by omega
  clear h0 hP hp hn hb
  go_enter Tryd.func5, Tryd.ntmps5
  go_wp2
  go_loopw [5, 6, 7] (fun A Z K wr => ∃ j : Nat, j ≤ n ∧ A = .string (Lx.S (Sx.rep [45] j)) ∧ Z = .string (Lx.S (Sx.rep [] j)) ∧ K = .int .i64 (j : Int) ∧ Hid (St P w wr [])) (fun _ _ K _ => n - (intOf K).toNat)
  case atStart => exact ⟨0, Nat.zero_le _, rfl, rfl, rfl, Lib.hid HS.out⟩
  case round =>
    obtain ⟨j, hj, rfl, rfl, rfl, HST⟩ := hrel
    by_cases hlt : j < n
    · have hltI : (j : Int) < (n : Int) := by omega
      have a1 : Lx.S (Sx.rep [45] j) ++ (⟨#[45]⟩ : ByteArray) = Lx.S (Sx.rep [45] (j + 1)) := by rw [← Sx.rep_comm]; exact Lx.S_cat _ _
      have a2 : (⟨#[]⟩ : ByteArray) ++ Lx.S (Sx.rep [] j) = Lx.S (Sx.rep [] (j + 1)) := Lx.S_cat _ _
      have s1 : (Lx.S (Sx.rep [45] j)).size ≤ 1000 := rep_small _ _ (by have := HNN.out; omega) (by decide)
      have s2 : (Lx.S (Sx.rep [] j)).size ≤ 1000 := rep_small _ _ (by have := HNN.out; omega) (by decide)
      clear E1 C1
      go_wp2
      try any_goals (exfalso; omega)
      exact ⟨⟨j + 1, by omega, by rw [← a1], by rw [Sx.rep_nil, Sx.rep_nil], by have := HNN.out; go_num, HST⟩, by simp [intOf]; omega⟩
    · have hge : ¬ (j : Int) < (n : Int) := by omega
      obtain rfl : j = n := by omega
      have htx := dT_text [45] [] j
      have s1 : (Lx.S (Sx.rep [45] j)).size ≤ 1000 := rep_small _ _ (by have := HNN.out; omega) (by decide)
      have s2 : (Lx.S (Sx.rep [] j)).size ≤ 1000 := rep_small _ _ (by have := HNN.out; omega) (by decide)
      clear hlt hj
      go_wp2_with (first
        | (go_at_call 7; refine (St.call (pre := []) HST.out C1.out).mono ?_; rintro e w1 ⟨J, ⟨q, c, rfl, rfl⟩, hs⟩; simp only [List.cons_append, List.nil_append] at hs; have HS1 := Lib.hid hs; clear hs HST)
        | (first | (refine wpl_alloc HS1.out _ rfl pgZ ?_; intro b5 w2 HS2; clear HS1) | (refine wpl_alloc HS2.out _ rfl bdZ ?_; intro b6 w3 HS3; clear HS2))
        | (first | (refine wpl_storeS HS3.out 2 rfl rfl pgT rfl fitsG ?_; intro w4 hs; have HS4 := Lib.hid (show St _ _ _ (_ :: _ :: _ :: []) from hs.out); clear hs HS3) | (refine wpl_storeS HS4.out 1 rfl rfl badT rfl (fitsB _ _) ?_; intro w5 hs; have HS5 := Lib.hid (show St _ _ _ (_ :: _ :: _ :: []) from hs.out); clear hs HS4; have c0 : w5.cell? ⟨b6, 0, none⟩ = some (.int .i64 0) := HS5.out.cell 1 rfl 0; have c1 : w5.cell? ⟨b6, 1, none⟩ = some (.int .i64 0) := HS5.out.cell 1 rfl 1)))
      try any_goals (exfalso; omega)
      go_at_call 6
      refine (St.call (pre := []) HS5.out lives_Fn).mono ?_
      rintro e w40 ⟨J, ⟨rfl, rfl⟩, hs⟩
      simp only [List.cons_append, List.nil_append] at hs
      have HS40 := Lib.hid hs
      clear hs
      simp only []
      clear E1 c0 c1 C1
      go_at_K
      go_wp2
      go_ret
      exact ⟨_, ⟨rfl, rfl⟩, HS40.out.sel [] rfl⟩
set_option maxHeartbeats 8000000 in
set_option maxRecDepth 100000 in
theorem deep_1b (n : Nat) (hn : n ≤ 200) (hb : ¬ 1 + n ≤ 64) : Fn 5 #[.int .i64 (1), .int .i64 (n : Int)] [] fun e J => e = .returned (.bool true) ∧ J = [] := by
  intro w P hP h0
  have HS := Lib.hid (St.start hP h0)
  have hp := Sx.bad1 n hb hn
  have C1 := Lib.hid (parse_no (Lx.S (Sx.dT [45] [] n)) (dT_small _ _ n hn (by decide) (by decide)) hp)
  have hn0 : ¬ (n : Int) < 0 := by omega
  have hn2 : ¬ (200 : Int) < (n : Int) := by omega
  have HNN := Lib.hid hn
  have E1 : ∀ w, (Op.equalIn 10000 28 (.agg #[.int .i64 11, .int .i64 76]) (.agg #[.int .i64 11, .int .i64 76])).run Tryd.prog w = .ok true w := fun w => bad_eq 11 76 11 76 w
  have hbI : (64 : Int) < 1 + (n : Int) := by omega
  clear h0 hP hp hn hb
  go_enter Tryd.func5, Tryd.ntmps5
  go_wp2
  go_loopw [5, 6, 7] (fun A Z K wr => ∃ j : Nat, j ≤ n ∧ A = .string (Lx.S (Sx.rep [45] j)) ∧ Z = .string (Lx.S (Sx.rep [] j)) ∧ K = .int .i64 (j : Int) ∧ Hid (St P w wr [])) (fun _ _ K _ => n - (intOf K).toNat)
  case atStart => exact ⟨0, Nat.zero_le _, rfl, rfl, rfl, Lib.hid HS.out⟩
  case round =>
    obtain ⟨j, hj, rfl, rfl, rfl, HST⟩ := hrel
    by_cases hlt : j < n
    · have hltI : (j : Int) < (n : Int) := by omega
      have a1 : Lx.S (Sx.rep [45] j) ++ (⟨#[45]⟩ : ByteArray) = Lx.S (Sx.rep [45] (j + 1)) := by rw [← Sx.rep_comm]; exact Lx.S_cat _ _
      have a2 : (⟨#[]⟩ : ByteArray) ++ Lx.S (Sx.rep [] j) = Lx.S (Sx.rep [] (j + 1)) := Lx.S_cat _ _
      have s1 : (Lx.S (Sx.rep [45] j)).size ≤ 1000 := rep_small _ _ (by have := HNN.out; omega) (by decide)
      have s2 : (Lx.S (Sx.rep [] j)).size ≤ 1000 := rep_small _ _ (by have := HNN.out; omega) (by decide)
      clear E1 C1
      go_wp2
      try any_goals (exfalso; omega)
      exact ⟨⟨j + 1, by omega, by rw [← a1], by rw [Sx.rep_nil, Sx.rep_nil], by have := HNN.out; go_num, HST⟩, by simp [intOf]; omega⟩
    · have hge : ¬ (j : Int) < (n : Int) := by omega
      obtain rfl : j = n := by omega
      have htx := dT_text [45] [] j
      have s1 : (Lx.S (Sx.rep [45] j)).size ≤ 1000 := rep_small _ _ (by have := HNN.out; omega) (by decide)
      have s2 : (Lx.S (Sx.rep [] j)).size ≤ 1000 := rep_small _ _ (by have := HNN.out; omega) (by decide)
      clear hlt hj
      go_wp2_with (first
        | (go_at_call 7; refine (St.call (pre := []) HST.out C1.out).mono ?_; rintro e w1 ⟨J, ⟨rfl, rfl⟩, hs⟩; simp only [List.cons_append, List.nil_append] at hs; have HS1 := Lib.hid hs; clear hs HST)
        | (first | (refine wpl_alloc0 HS1.out _ rfl pgZ ?_; intro b5 w2 HS2; clear HS1) | (refine wpl_alloc HS2.out _ rfl bdZ ?_; intro b6 w3 HS3; clear HS2))
        | (first | (refine wpl_storeS HS3.out 0 rfl rfl pgT rfl fitsG ?_; intro w4 hs; have HS4 := Lib.hid (show St _ _ _ (_ :: _ :: []) from hs.out); clear hs HS3) | (refine wpl_storeS HS4.out 1 rfl rfl badT rfl (fitsB _ _) ?_; intro w5 hs; have HS5 := Lib.hid (show St _ _ _ (_ :: _ :: []) from hs.out); clear hs HS4; have c0 : w5.cell? ⟨b6, 0, none⟩ = some (.int .i64 11) := HS5.out.cell 1 rfl 0; have c1 : w5.cell? ⟨b6, 1, none⟩ = some (.int .i64 76) := HS5.out.cell 1 rfl 1)))
      try any_goals (exfalso; omega)
      go_at_call 6
      refine (St.call (pre := []) HS5.out lives_Fn).mono ?_
      rintro e w40 ⟨J, ⟨rfl, rfl⟩, hs⟩
      simp only [List.cons_append, List.nil_append] at hs
      have HS40 := Lib.hid hs
      clear hs
      simp only []
      clear E1 c0 c1 C1
      go_at_K
      go_wp2
      go_ret
      exact ⟨_, ⟨rfl, rfl⟩, HS40.out.sel [] rfl⟩
set_option maxHeartbeats 8000000 in
set_option maxRecDepth 100000 in
theorem deep_2g (n : Nat) (hn : n ≤ 200) (hb : 1 + n ≤ 64) : Fn 5 #[.int .i64 (2), .int .i64 (n : Int)] [] fun e J => e = .returned (.bool true) ∧ J = [] := by
  intro w P hP h0
  have HS := Lib.hid (St.start hP h0)
  obtain ⟨fs, hp⟩ := Sx.good2 n hb
  have C1 := Lib.hid (parse_is (Lx.S (Sx.dT [98, 91] [93] n)) (dT_small _ _ n hn (by decide) (by decide)) hp)
  have hn0 : ¬ (n : Int) < 0 := by omega
  have hn2 : ¬ (200 : Int) < (n : Int) := by omega
  have HNN := Lib.hid hn
  have E1 : ∀ w, (Op.equalIn 10000 28 (.agg #[.int .i64 0, .int .i64 0]) (.agg #[.int .i64 0, .int .i64 0])).run Tryd.prog w = .ok true w := fun w => bad_eq 0 0 0 0 w
  have hbI : ¬ (64 : Int) < 1 + (n : Int) := by omega
  clear h0 hP hp hn hb
  go_enter Tryd.func5, Tryd.ntmps5
  go_wp2
  go_loopw [5, 6, 7] (fun A Z K wr => ∃ j : Nat, j ≤ n ∧ A = .string (Lx.S (Sx.rep [98, 91] j)) ∧ Z = .string (Lx.S (Sx.rep [93] j)) ∧ K = .int .i64 (j : Int) ∧ Hid (St P w wr [])) (fun _ _ K _ => n - (intOf K).toNat)
  case atStart => exact ⟨0, Nat.zero_le _, rfl, rfl, rfl, Lib.hid HS.out⟩
  case round =>
    obtain ⟨j, hj, rfl, rfl, rfl, HST⟩ := hrel
    by_cases hlt : j < n
    · have hltI : (j : Int) < (n : Int) := by omega
      have a1 : Lx.S (Sx.rep [98, 91] j) ++ (⟨#[98, 91]⟩ : ByteArray) = Lx.S (Sx.rep [98, 91] (j + 1)) := by rw [← Sx.rep_comm]; exact Lx.S_cat _ _
      have a2 : (⟨#[93]⟩ : ByteArray) ++ Lx.S (Sx.rep [93] j) = Lx.S (Sx.rep [93] (j + 1)) := Lx.S_cat _ _
      have s1 : (Lx.S (Sx.rep [98, 91] j)).size ≤ 1000 := rep_small _ _ (by have := HNN.out; omega) (by decide)
      have s2 : (Lx.S (Sx.rep [93] j)).size ≤ 1000 := rep_small _ _ (by have := HNN.out; omega) (by decide)
      clear E1 C1
      go_wp2
      try any_goals (exfalso; omega)
      exact ⟨⟨j + 1, by omega, by rw [← a1], by rw [← a2], by have := HNN.out; go_num, HST⟩, by simp [intOf]; omega⟩
    · have hge : ¬ (j : Int) < (n : Int) := by omega
      obtain rfl : j = n := by omega
      have htx := dT_text [98, 91] [93] j
      have s1 : (Lx.S (Sx.rep [98, 91] j)).size ≤ 1000 := rep_small _ _ (by have := HNN.out; omega) (by decide)
      have s2 : (Lx.S (Sx.rep [93] j)).size ≤ 1000 := rep_small _ _ (by have := HNN.out; omega) (by decide)
      clear hlt hj
      go_wp2_with (first
        | (go_at_call 7; refine (St.call (pre := []) HST.out C1.out).mono ?_; rintro e w1 ⟨J, ⟨q, c, rfl, rfl⟩, hs⟩; simp only [List.cons_append, List.nil_append] at hs; have HS1 := Lib.hid hs; clear hs HST)
        | (first | (refine wpl_alloc HS1.out _ rfl pgZ ?_; intro b5 w2 HS2; clear HS1) | (refine wpl_alloc HS2.out _ rfl bdZ ?_; intro b6 w3 HS3; clear HS2))
        | (first | (refine wpl_storeS HS3.out 2 rfl rfl pgT rfl fitsG ?_; intro w4 hs; have HS4 := Lib.hid (show St _ _ _ (_ :: _ :: _ :: []) from hs.out); clear hs HS3) | (refine wpl_storeS HS4.out 1 rfl rfl badT rfl (fitsB _ _) ?_; intro w5 hs; have HS5 := Lib.hid (show St _ _ _ (_ :: _ :: _ :: []) from hs.out); clear hs HS4; have c0 : w5.cell? ⟨b6, 0, none⟩ = some (.int .i64 0) := HS5.out.cell 1 rfl 0; have c1 : w5.cell? ⟨b6, 1, none⟩ = some (.int .i64 0) := HS5.out.cell 1 rfl 1)))
      try any_goals (exfalso; omega)
      go_at_call 6
      refine (St.call (pre := []) HS5.out lives_Fn).mono ?_
      rintro e w40 ⟨J, ⟨rfl, rfl⟩, hs⟩
      simp only [List.cons_append, List.nil_append] at hs
      have HS40 := Lib.hid hs
      clear hs
      simp only []
      clear E1 c0 c1 C1
      go_at_K
      go_wp2
      go_ret
      exact ⟨_, ⟨rfl, rfl⟩, HS40.out.sel [] rfl⟩
set_option maxHeartbeats 8000000 in
set_option maxRecDepth 100000 in
theorem deep_2b (n : Nat) (hn : n ≤ 200) (hb : ¬ 1 + n ≤ 64) : Fn 5 #[.int .i64 (2), .int .i64 (n : Int)] [] fun e J => e = .returned (.bool true) ∧ J = [] := by
  intro w P hP h0
  have HS := Lib.hid (St.start hP h0)
  have hp := Sx.bad2 n hb hn
  have C1 := Lib.hid (parse_no (Lx.S (Sx.dT [98, 91] [93] n)) (dT_small _ _ n hn (by decide) (by decide)) hp)
  have hn0 : ¬ (n : Int) < 0 := by omega
  have hn2 : ¬ (200 : Int) < (n : Int) := by omega
  have HNN := Lib.hid hn
  have E1 : ∀ w, (Op.equalIn 10000 28 (.agg #[.int .i64 11, .int .i64 140]) (.agg #[.int .i64 11, .int .i64 140])).run Tryd.prog w = .ok true w := fun w => bad_eq 11 140 11 140 w
  have hbI : (64 : Int) < 1 + (n : Int) := by omega
  clear h0 hP hp hn hb
  go_enter Tryd.func5, Tryd.ntmps5
  go_wp2
  go_loopw [5, 6, 7] (fun A Z K wr => ∃ j : Nat, j ≤ n ∧ A = .string (Lx.S (Sx.rep [98, 91] j)) ∧ Z = .string (Lx.S (Sx.rep [93] j)) ∧ K = .int .i64 (j : Int) ∧ Hid (St P w wr [])) (fun _ _ K _ => n - (intOf K).toNat)
  case atStart => exact ⟨0, Nat.zero_le _, rfl, rfl, rfl, Lib.hid HS.out⟩
  case round =>
    obtain ⟨j, hj, rfl, rfl, rfl, HST⟩ := hrel
    by_cases hlt : j < n
    · have hltI : (j : Int) < (n : Int) := by omega
      have a1 : Lx.S (Sx.rep [98, 91] j) ++ (⟨#[98, 91]⟩ : ByteArray) = Lx.S (Sx.rep [98, 91] (j + 1)) := by rw [← Sx.rep_comm]; exact Lx.S_cat _ _
      have a2 : (⟨#[93]⟩ : ByteArray) ++ Lx.S (Sx.rep [93] j) = Lx.S (Sx.rep [93] (j + 1)) := Lx.S_cat _ _
      have s1 : (Lx.S (Sx.rep [98, 91] j)).size ≤ 1000 := rep_small _ _ (by have := HNN.out; omega) (by decide)
      have s2 : (Lx.S (Sx.rep [93] j)).size ≤ 1000 := rep_small _ _ (by have := HNN.out; omega) (by decide)
      clear E1 C1
      go_wp2
      try any_goals (exfalso; omega)
      exact ⟨⟨j + 1, by omega, by rw [← a1], by rw [← a2], by have := HNN.out; go_num, HST⟩, by simp [intOf]; omega⟩
    · have hge : ¬ (j : Int) < (n : Int) := by omega
      obtain rfl : j = n := by omega
      have htx := dT_text [98, 91] [93] j
      have s1 : (Lx.S (Sx.rep [98, 91] j)).size ≤ 1000 := rep_small _ _ (by have := HNN.out; omega) (by decide)
      have s2 : (Lx.S (Sx.rep [93] j)).size ≤ 1000 := rep_small _ _ (by have := HNN.out; omega) (by decide)
      clear hlt hj
      go_wp2_with (first
        | (go_at_call 7; refine (St.call (pre := []) HST.out C1.out).mono ?_; rintro e w1 ⟨J, ⟨rfl, rfl⟩, hs⟩; simp only [List.cons_append, List.nil_append] at hs; have HS1 := Lib.hid hs; clear hs HST)
        | (first | (refine wpl_alloc0 HS1.out _ rfl pgZ ?_; intro b5 w2 HS2; clear HS1) | (refine wpl_alloc HS2.out _ rfl bdZ ?_; intro b6 w3 HS3; clear HS2))
        | (first | (refine wpl_storeS HS3.out 0 rfl rfl pgT rfl fitsG ?_; intro w4 hs; have HS4 := Lib.hid (show St _ _ _ (_ :: _ :: []) from hs.out); clear hs HS3) | (refine wpl_storeS HS4.out 1 rfl rfl badT rfl (fitsB _ _) ?_; intro w5 hs; have HS5 := Lib.hid (show St _ _ _ (_ :: _ :: []) from hs.out); clear hs HS4; have c0 : w5.cell? ⟨b6, 0, none⟩ = some (.int .i64 11) := HS5.out.cell 1 rfl 0; have c1 : w5.cell? ⟨b6, 1, none⟩ = some (.int .i64 140) := HS5.out.cell 1 rfl 1)))
      try any_goals (exfalso; omega)
      go_at_call 6
      refine (St.call (pre := []) HS5.out lives_Fn).mono ?_
      rintro e w40 ⟨J, ⟨rfl, rfl⟩, hs⟩
      simp only [List.cons_append, List.nil_append] at hs
      have HS40 := Lib.hid hs
      clear hs
      simp only []
      clear E1 c0 c1 C1
      go_at_K
      go_wp2
      go_ret
      exact ⟨_, ⟨rfl, rfl⟩, HS40.out.sel [] rfl⟩
set_option maxHeartbeats 8000000 in
set_option maxRecDepth 100000 in
theorem deep_3g (n : Nat) (hn : n ≤ 200) (hb : 1 + 2 * n ≤ 64) : Fn 5 #[.int .i64 (3), .int .i64 (n : Int)] [] fun e J => e = .returned (.bool true) ∧ J = [] := by
  intro w P hP h0
  have HS := Lib.hid (St.start hP h0)
  obtain ⟨fs, hp⟩ := Sx.good3 n hb
  have C1 := Lib.hid (parse_is (Lx.S (Sx.dT [126, 40] [41] n)) (dT_small _ _ n hn (by decide) (by decide)) hp)
  have hn0 : ¬ (n : Int) < 0 := by omega
  have hn2 : ¬ (200 : Int) < (n : Int) := by omega
  have HNN := Lib.hid hn
  have E1 : ∀ w, (Op.equalIn 10000 28 (.agg #[.int .i64 0, .int .i64 0]) (.agg #[.int .i64 0, .int .i64 0])).run Tryd.prog w = .ok true w := fun w => bad_eq 0 0 0 0 w
  have hbI : ¬ (64 : Int) < 1 + 2 * (n : Int) := by omega
  clear h0 hP hp hn hb
  go_enter Tryd.func5, Tryd.ntmps5
  go_wp2
  go_loopw [5, 6, 7] (fun A Z K wr => ∃ j : Nat, j ≤ n ∧ A = .string (Lx.S (Sx.rep [126, 40] j)) ∧ Z = .string (Lx.S (Sx.rep [41] j)) ∧ K = .int .i64 (j : Int) ∧ Hid (St P w wr [])) (fun _ _ K _ => n - (intOf K).toNat)
  case atStart => exact ⟨0, Nat.zero_le _, rfl, rfl, rfl, Lib.hid HS.out⟩
  case round =>
    obtain ⟨j, hj, rfl, rfl, rfl, HST⟩ := hrel
    by_cases hlt : j < n
    · have hltI : (j : Int) < (n : Int) := by omega
      have a1 : Lx.S (Sx.rep [126, 40] j) ++ (⟨#[126, 40]⟩ : ByteArray) = Lx.S (Sx.rep [126, 40] (j + 1)) := by rw [← Sx.rep_comm]; exact Lx.S_cat _ _
      have a2 : (⟨#[41]⟩ : ByteArray) ++ Lx.S (Sx.rep [41] j) = Lx.S (Sx.rep [41] (j + 1)) := Lx.S_cat _ _
      have s1 : (Lx.S (Sx.rep [126, 40] j)).size ≤ 1000 := rep_small _ _ (by have := HNN.out; omega) (by decide)
      have s2 : (Lx.S (Sx.rep [41] j)).size ≤ 1000 := rep_small _ _ (by have := HNN.out; omega) (by decide)
      clear E1 C1
      go_wp2
      try any_goals (exfalso; omega)
      exact ⟨⟨j + 1, by omega, by rw [← a1], by rw [← a2], by have := HNN.out; go_num, HST⟩, by simp [intOf]; omega⟩
    · have hge : ¬ (j : Int) < (n : Int) := by omega
      obtain rfl : j = n := by omega
      have htx := dT_text [126, 40] [41] j
      have s1 : (Lx.S (Sx.rep [126, 40] j)).size ≤ 1000 := rep_small _ _ (by have := HNN.out; omega) (by decide)
      have s2 : (Lx.S (Sx.rep [41] j)).size ≤ 1000 := rep_small _ _ (by have := HNN.out; omega) (by decide)
      clear hlt hj
      go_wp2_with (first
        | (go_at_call 7; refine (St.call (pre := []) HST.out C1.out).mono ?_; rintro e w1 ⟨J, ⟨q, c, rfl, rfl⟩, hs⟩; simp only [List.cons_append, List.nil_append] at hs; have HS1 := Lib.hid hs; clear hs HST)
        | (first | (refine wpl_alloc HS1.out _ rfl pgZ ?_; intro b5 w2 HS2; clear HS1) | (refine wpl_alloc HS2.out _ rfl bdZ ?_; intro b6 w3 HS3; clear HS2))
        | (first | (refine wpl_storeS HS3.out 2 rfl rfl pgT rfl fitsG ?_; intro w4 hs; have HS4 := Lib.hid (show St _ _ _ (_ :: _ :: _ :: []) from hs.out); clear hs HS3) | (refine wpl_storeS HS4.out 1 rfl rfl badT rfl (fitsB _ _) ?_; intro w5 hs; have HS5 := Lib.hid (show St _ _ _ (_ :: _ :: _ :: []) from hs.out); clear hs HS4; have c0 : w5.cell? ⟨b6, 0, none⟩ = some (.int .i64 0) := HS5.out.cell 1 rfl 0; have c1 : w5.cell? ⟨b6, 1, none⟩ = some (.int .i64 0) := HS5.out.cell 1 rfl 1)))
      try any_goals (exfalso; omega)
      go_at_call 6
      refine (St.call (pre := []) HS5.out lives_Fn).mono ?_
      rintro e w40 ⟨J, ⟨rfl, rfl⟩, hs⟩
      simp only [List.cons_append, List.nil_append] at hs
      have HS40 := Lib.hid hs
      clear hs
      simp only []
      clear E1 c0 c1 C1
      go_at_K
      go_wp2
      go_ret
      exact ⟨_, ⟨rfl, rfl⟩, HS40.out.sel [] rfl⟩
set_option maxHeartbeats 8000000 in
set_option maxRecDepth 100000 in
theorem deep_3b (n : Nat) (hn : n ≤ 200) (hb : ¬ 1 + 2 * n ≤ 64) : Fn 5 #[.int .i64 (3), .int .i64 (n : Int)] [] fun e J => e = .returned (.bool true) ∧ J = [] := by
  intro w P hP h0
  have HS := Lib.hid (St.start hP h0)
  have hp := Sx.bad3 n hb hn
  have C1 := Lib.hid (parse_no (Lx.S (Sx.dT [126, 40] [41] n)) (dT_small _ _ n hn (by decide) (by decide)) hp)
  have hn0 : ¬ (n : Int) < 0 := by omega
  have hn2 : ¬ (200 : Int) < (n : Int) := by omega
  have HNN := Lib.hid hn
  have E1 : ∀ w, (Op.equalIn 10000 28 (.agg #[.int .i64 11, .int .i64 76]) (.agg #[.int .i64 11, .int .i64 76])).run Tryd.prog w = .ok true w := fun w => bad_eq 11 76 11 76 w
  have hbI : (64 : Int) < 1 + 2 * (n : Int) := by omega
  clear h0 hP hp hn hb
  go_enter Tryd.func5, Tryd.ntmps5
  go_wp2
  go_loopw [5, 6, 7] (fun A Z K wr => ∃ j : Nat, j ≤ n ∧ A = .string (Lx.S (Sx.rep [126, 40] j)) ∧ Z = .string (Lx.S (Sx.rep [41] j)) ∧ K = .int .i64 (j : Int) ∧ Hid (St P w wr [])) (fun _ _ K _ => n - (intOf K).toNat)
  case atStart => exact ⟨0, Nat.zero_le _, rfl, rfl, rfl, Lib.hid HS.out⟩
  case round =>
    obtain ⟨j, hj, rfl, rfl, rfl, HST⟩ := hrel
    by_cases hlt : j < n
    · have hltI : (j : Int) < (n : Int) := by omega
      have a1 : Lx.S (Sx.rep [126, 40] j) ++ (⟨#[126, 40]⟩ : ByteArray) = Lx.S (Sx.rep [126, 40] (j + 1)) := by rw [← Sx.rep_comm]; exact Lx.S_cat _ _
      have a2 : (⟨#[41]⟩ : ByteArray) ++ Lx.S (Sx.rep [41] j) = Lx.S (Sx.rep [41] (j + 1)) := Lx.S_cat _ _
      have s1 : (Lx.S (Sx.rep [126, 40] j)).size ≤ 1000 := rep_small _ _ (by have := HNN.out; omega) (by decide)
      have s2 : (Lx.S (Sx.rep [41] j)).size ≤ 1000 := rep_small _ _ (by have := HNN.out; omega) (by decide)
      clear E1 C1
      go_wp2
      try any_goals (exfalso; omega)
      exact ⟨⟨j + 1, by omega, by rw [← a1], by rw [← a2], by have := HNN.out; go_num, HST⟩, by simp [intOf]; omega⟩
    · have hge : ¬ (j : Int) < (n : Int) := by omega
      obtain rfl : j = n := by omega
      have htx := dT_text [126, 40] [41] j
      have s1 : (Lx.S (Sx.rep [126, 40] j)).size ≤ 1000 := rep_small _ _ (by have := HNN.out; omega) (by decide)
      have s2 : (Lx.S (Sx.rep [41] j)).size ≤ 1000 := rep_small _ _ (by have := HNN.out; omega) (by decide)
      clear hlt hj
      go_wp2_with (first
        | (go_at_call 7; refine (St.call (pre := []) HST.out C1.out).mono ?_; rintro e w1 ⟨J, ⟨rfl, rfl⟩, hs⟩; simp only [List.cons_append, List.nil_append] at hs; have HS1 := Lib.hid hs; clear hs HST)
        | (first | (refine wpl_alloc0 HS1.out _ rfl pgZ ?_; intro b5 w2 HS2; clear HS1) | (refine wpl_alloc HS2.out _ rfl bdZ ?_; intro b6 w3 HS3; clear HS2))
        | (first | (refine wpl_storeS HS3.out 0 rfl rfl pgT rfl fitsG ?_; intro w4 hs; have HS4 := Lib.hid (show St _ _ _ (_ :: _ :: []) from hs.out); clear hs HS3) | (refine wpl_storeS HS4.out 1 rfl rfl badT rfl (fitsB _ _) ?_; intro w5 hs; have HS5 := Lib.hid (show St _ _ _ (_ :: _ :: []) from hs.out); clear hs HS4; have c0 : w5.cell? ⟨b6, 0, none⟩ = some (.int .i64 11) := HS5.out.cell 1 rfl 0; have c1 : w5.cell? ⟨b6, 1, none⟩ = some (.int .i64 76) := HS5.out.cell 1 rfl 1)))
      try any_goals (exfalso; omega)
      go_at_call 6
      refine (St.call (pre := []) HS5.out lives_Fn).mono ?_
      rintro e w40 ⟨J, ⟨rfl, rfl⟩, hs⟩
      simp only [List.cons_append, List.nil_append] at hs
      have HS40 := Lib.hid hs
      clear hs
      simp only []
      clear E1 c0 c1 C1
      go_at_K
      go_wp2
      go_ret
      exact ⟨_, ⟨rfl, rfl⟩, HS40.out.sel [] rfl⟩
set_option maxHeartbeats 8000000 in
set_option maxRecDepth 100000 in
theorem deep_4g (n : Nat) (hn : n ≤ 200) (k : Int) (k0 : ¬ k = 0) (k1 : ¬ k = 1) (k2 : ¬ k = 2) (k3 : ¬ k = 3) (hb : 1 + n ≤ 64) : Fn 5 #[.int .i64 k, .int .i64 (n : Int)] [] fun e J => e = .returned (.bool true) ∧ J = [] := by
  intro w P hP h0
  have HS := Lib.hid (St.start hP h0)
  obtain ⟨fs, hp⟩ := Sx.good4 n hb
  have C1 := Lib.hid (parse_is (Lx.S (Sx.dT [102, 40] [41] n)) (dT_small _ _ n hn (by decide) (by decide)) hp)
  have hn0 : ¬ (n : Int) < 0 := by omega
  have hn2 : ¬ (200 : Int) < (n : Int) := by omega
  have HNN := Lib.hid hn
  have E1 : ∀ w, (Op.equalIn 10000 28 (.agg #[.int .i64 0, .int .i64 0]) (.agg #[.int .i64 0, .int .i64 0])).run Tryd.prog w = .ok true w := fun w => bad_eq 0 0 0 0 w
  have hbI : ¬ (64 : Int) < 1 + (n : Int) := by omega
  have g0 : (k == 0) = false := by simpa using k0
  have g1 : (k == 1) = false := by simpa using k1
  have g2 : (k == 2) = false := by simpa using k2
  have g3 : (k == 3) = false := by simpa using k3
  have m0 : (k != 0) = true := by simpa using k0
  have m1 : (k != 1) = true := by simpa using k1
  have m3 : (k != 3) = true := by simpa using k3
  clear k0 k1 k2 k3
  clear h0 hP hp hn hb
  go_enter Tryd.func5, Tryd.ntmps5
  go_wp2
  go_loopw [5, 6, 7] (fun A Z K wr => ∃ j : Nat, j ≤ n ∧ A = .string (Lx.S (Sx.rep [102, 40] j)) ∧ Z = .string (Lx.S (Sx.rep [41] j)) ∧ K = .int .i64 (j : Int) ∧ Hid (St P w wr [])) (fun _ _ K _ => n - (intOf K).toNat)
  case atStart => exact ⟨0, Nat.zero_le _, rfl, rfl, rfl, Lib.hid HS.out⟩
  case round =>
    obtain ⟨j, hj, rfl, rfl, rfl, HST⟩ := hrel
    by_cases hlt : j < n
    · have hltI : (j : Int) < (n : Int) := by omega
      have a1 : Lx.S (Sx.rep [102, 40] j) ++ (⟨#[102, 40]⟩ : ByteArray) = Lx.S (Sx.rep [102, 40] (j + 1)) := by rw [← Sx.rep_comm]; exact Lx.S_cat _ _
      have a2 : (⟨#[41]⟩ : ByteArray) ++ Lx.S (Sx.rep [41] j) = Lx.S (Sx.rep [41] (j + 1)) := Lx.S_cat _ _
      have s1 : (Lx.S (Sx.rep [102, 40] j)).size ≤ 1000 := rep_small _ _ (by have := HNN.out; omega) (by decide)
      have s2 : (Lx.S (Sx.rep [41] j)).size ≤ 1000 := rep_small _ _ (by have := HNN.out; omega) (by decide)
      clear E1 C1
      go_wp2
      try any_goals (exfalso; omega)
      exact ⟨⟨j + 1, by omega, by rw [← a1], by rw [← a2], by have := HNN.out; go_num, HST⟩, by simp [intOf]; omega⟩
    · have hge : ¬ (j : Int) < (n : Int) := by omega
      obtain rfl : j = n := by omega
      have htx := dT_text [102, 40] [41] j
      have s1 : (Lx.S (Sx.rep [102, 40] j)).size ≤ 1000 := rep_small _ _ (by have := HNN.out; omega) (by decide)
      have s2 : (Lx.S (Sx.rep [41] j)).size ≤ 1000 := rep_small _ _ (by have := HNN.out; omega) (by decide)
      clear hlt hj
      go_wp2_with (first
        | (go_at_call 7; refine (St.call (pre := []) HST.out C1.out).mono ?_; rintro e w1 ⟨J, ⟨q, c, rfl, rfl⟩, hs⟩; simp only [List.cons_append, List.nil_append] at hs; have HS1 := Lib.hid hs; clear hs HST)
        | (first | (refine wpl_alloc HS1.out _ rfl pgZ ?_; intro b5 w2 HS2; clear HS1) | (refine wpl_alloc HS2.out _ rfl bdZ ?_; intro b6 w3 HS3; clear HS2))
        | (first | (refine wpl_storeS HS3.out 2 rfl rfl pgT rfl fitsG ?_; intro w4 hs; have HS4 := Lib.hid (show St _ _ _ (_ :: _ :: _ :: []) from hs.out); clear hs HS3) | (refine wpl_storeS HS4.out 1 rfl rfl badT rfl (fitsB _ _) ?_; intro w5 hs; have HS5 := Lib.hid (show St _ _ _ (_ :: _ :: _ :: []) from hs.out); clear hs HS4; have c0 : w5.cell? ⟨b6, 0, none⟩ = some (.int .i64 0) := HS5.out.cell 1 rfl 0; have c1 : w5.cell? ⟨b6, 1, none⟩ = some (.int .i64 0) := HS5.out.cell 1 rfl 1)))
      try any_goals (exfalso; omega)
      go_at_call 6
      refine (St.call (pre := []) HS5.out lives_Fn).mono ?_
      rintro e w40 ⟨J, ⟨rfl, rfl⟩, hs⟩
      simp only [List.cons_append, List.nil_append] at hs
      have HS40 := Lib.hid hs
      clear hs
      simp only []
      clear E1 c0 c1 C1
      go_at_K
      go_wp2
      go_ret
      exact ⟨_, ⟨rfl, rfl⟩, HS40.out.sel [] rfl⟩
set_option maxHeartbeats 8000000 in
set_option maxRecDepth 100000 in
theorem deep_4b (n : Nat) (hn : n ≤ 200) (k : Int) (k0 : ¬ k = 0) (k1 : ¬ k = 1) (k2 : ¬ k = 2) (k3 : ¬ k = 3) (hb : ¬ 1 + n ≤ 64) : Fn 5 #[.int .i64 k, .int .i64 (n : Int)] [] fun e J => e = .returned (.bool true) ∧ J = [] := by
  intro w P hP h0
  have HS := Lib.hid (St.start hP h0)
  have hp := Sx.bad4 n hb hn
  have C1 := Lib.hid (parse_no (Lx.S (Sx.dT [102, 40] [41] n)) (dT_small _ _ n hn (by decide) (by decide)) hp)
  have hn0 : ¬ (n : Int) < 0 := by omega
  have hn2 : ¬ (200 : Int) < (n : Int) := by omega
  have HNN := Lib.hid hn
  have E1 : ∀ w, (Op.equalIn 10000 28 (.agg #[.int .i64 11, .int .i64 140]) (.agg #[.int .i64 11, .int .i64 140])).run Tryd.prog w = .ok true w := fun w => bad_eq 11 140 11 140 w
  have hbI : (64 : Int) < 1 + (n : Int) := by omega
  have g0 : (k == 0) = false := by simpa using k0
  have g1 : (k == 1) = false := by simpa using k1
  have g2 : (k == 2) = false := by simpa using k2
  have g3 : (k == 3) = false := by simpa using k3
  have m0 : (k != 0) = true := by simpa using k0
  have m1 : (k != 1) = true := by simpa using k1
  have m3 : (k != 3) = true := by simpa using k3
  clear k0 k1 k2 k3
  clear h0 hP hp hn hb
  go_enter Tryd.func5, Tryd.ntmps5
  go_wp2
  go_loopw [5, 6, 7] (fun A Z K wr => ∃ j : Nat, j ≤ n ∧ A = .string (Lx.S (Sx.rep [102, 40] j)) ∧ Z = .string (Lx.S (Sx.rep [41] j)) ∧ K = .int .i64 (j : Int) ∧ Hid (St P w wr [])) (fun _ _ K _ => n - (intOf K).toNat)
  case atStart => exact ⟨0, Nat.zero_le _, rfl, rfl, rfl, Lib.hid HS.out⟩
  case round =>
    obtain ⟨j, hj, rfl, rfl, rfl, HST⟩ := hrel
    by_cases hlt : j < n
    · have hltI : (j : Int) < (n : Int) := by omega
      have a1 : Lx.S (Sx.rep [102, 40] j) ++ (⟨#[102, 40]⟩ : ByteArray) = Lx.S (Sx.rep [102, 40] (j + 1)) := by rw [← Sx.rep_comm]; exact Lx.S_cat _ _
      have a2 : (⟨#[41]⟩ : ByteArray) ++ Lx.S (Sx.rep [41] j) = Lx.S (Sx.rep [41] (j + 1)) := Lx.S_cat _ _
      have s1 : (Lx.S (Sx.rep [102, 40] j)).size ≤ 1000 := rep_small _ _ (by have := HNN.out; omega) (by decide)
      have s2 : (Lx.S (Sx.rep [41] j)).size ≤ 1000 := rep_small _ _ (by have := HNN.out; omega) (by decide)
      clear E1 C1
      go_wp2
      try any_goals (exfalso; omega)
      exact ⟨⟨j + 1, by omega, by rw [← a1], by rw [← a2], by have := HNN.out; go_num, HST⟩, by simp [intOf]; omega⟩
    · have hge : ¬ (j : Int) < (n : Int) := by omega
      obtain rfl : j = n := by omega
      have htx := dT_text [102, 40] [41] j
      have s1 : (Lx.S (Sx.rep [102, 40] j)).size ≤ 1000 := rep_small _ _ (by have := HNN.out; omega) (by decide)
      have s2 : (Lx.S (Sx.rep [41] j)).size ≤ 1000 := rep_small _ _ (by have := HNN.out; omega) (by decide)
      clear hlt hj
      go_wp2_with (first
        | (go_at_call 7; refine (St.call (pre := []) HST.out C1.out).mono ?_; rintro e w1 ⟨J, ⟨rfl, rfl⟩, hs⟩; simp only [List.cons_append, List.nil_append] at hs; have HS1 := Lib.hid hs; clear hs HST)
        | (first | (refine wpl_alloc0 HS1.out _ rfl pgZ ?_; intro b5 w2 HS2; clear HS1) | (refine wpl_alloc HS2.out _ rfl bdZ ?_; intro b6 w3 HS3; clear HS2))
        | (first | (refine wpl_storeS HS3.out 0 rfl rfl pgT rfl fitsG ?_; intro w4 hs; have HS4 := Lib.hid (show St _ _ _ (_ :: _ :: []) from hs.out); clear hs HS3) | (refine wpl_storeS HS4.out 1 rfl rfl badT rfl (fitsB _ _) ?_; intro w5 hs; have HS5 := Lib.hid (show St _ _ _ (_ :: _ :: []) from hs.out); clear hs HS4; have c0 : w5.cell? ⟨b6, 0, none⟩ = some (.int .i64 11) := HS5.out.cell 1 rfl 0; have c1 : w5.cell? ⟨b6, 1, none⟩ = some (.int .i64 140) := HS5.out.cell 1 rfl 1)))
      try any_goals (exfalso; omega)
      go_at_call 6
      refine (St.call (pre := []) HS5.out lives_Fn).mono ?_
      rintro e w40 ⟨J, ⟨rfl, rfl⟩, hs⟩
      simp only [List.cons_append, List.nil_append] at hs
      have HS40 := Lib.hid hs
      clear hs
      simp only []
      clear E1 c0 c1 C1
      go_at_K
      go_wp2
      go_ret
      exact ⟨_, ⟨rfl, rfl⟩, HS40.out.sel [] rfl⟩
theorem deep_Fn (k n : Int) : Fn 5 #[.int .i64 k, .int .i64 n] [] fun e J => e = .returned (.bool true) ∧ J = [] := by
  by_cases hout : n < 0 ∨ 200 < n
  · exact deep_out k n hout
  obtain ⟨m, rfl⟩ : ∃ m : Nat, n = m := ⟨n.toNat, by omega⟩
  have hm : m ≤ 200 := by omega
  by_cases k0 : k = 0
  · subst k0
    by_cases hb : 1 + m ≤ 64
    · exact deep_0g m hm hb
    · exact deep_0b m hm hb
  by_cases k1 : k = 1
  · subst k1
    by_cases hb : 1 + m ≤ 64
    · exact deep_1g m hm hb
    · exact deep_1b m hm hb
  by_cases k2 : k = 2
  · subst k2
    by_cases hb : 1 + m ≤ 64
    · exact deep_2g m hm hb
    · exact deep_2b m hm hb
  by_cases k3 : k = 3
  · subst k3
    by_cases hb : 1 + 2 * m ≤ 64
    · exact deep_3g m hm hb
    · exact deep_3b m hm hb
  by_cases hb : 1 + m ≤ 64
  · exact deep_4g m hm k k0 k1 k2 k3 hb
  · exact deep_4b m hm k k0 k1 k2 k3 hb
end Go.Proofs.YtpgjhgfneieeiaaDoor
