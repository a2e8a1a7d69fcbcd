/-
SyntaxCuts, as a function on parts.
-/
import Derived.Test.YtpgjhgfneieeiaaDoorP39a
import Derived.Test.YtpgjhgfneieeiaaDoorP16a
namespace Go.Proofs.YtpgjhgfneieeiaaDoor
open Go.ChangeShapes Go.WideShapes Go.ChangeAt Go.RowKit
set_option linter.unusedVariables false
set_option linter.unusedSimpArgs false

theorem run_byte {P : Program} (w : World) (t : TypeId) (s : ByteArray) (i : Int) (k : Nat) (b : UInt8) (h : P.underlying t = some .string) (hk : (k : Int) = i) (hb : s.data.toList[k]? = some b) :
    (Instr.index t (.string s) (.int .i64 i)).run P w = .ok (.int .u8 b.toNat) w := by
  subst hk
  have hl : k < s.data.toList.length := (List.getElem?_eq_some_iff.1 hb).1
  have hl2 : k < s.size := by rw [Array.length_toList] at hl; exact hl
  rw [run_index_string w t s .i64 k h, dif_pos ⟨by omega, by omega⟩]
  have e : s.data.toList[k] = b := by rw [List.getElem?_eq_getElem hl] at hb; exact Option.some.inj hb
  have e2 : s[(k : Int).toNat]'(by rw [Int.toNat_natCast]; exact hl2) = b := by
    simp only [Int.toNat_natCast]
    exact e
  rw [e2]
theorem cat_list (a b : ByteArray) : (a ++ b).data.toList = a.data.toList ++ b.data.toList := by simp
theorem cut_list (a0 a1 : ByteArray) (k : Nat) : (a0.extract 0 k ++ ({ data := #[10] } : ByteArray) ++ a1).data.toList = a0.data.toList.take k ++ 10 :: a1.data.toList := by
  rw [cat_list, cat_list, Lx.S_ext, List.drop_zero, Nat.sub_zero, List.append_assoc]
  rfl
/-- the law's cut, plain -/
theorem cut_says (a0 a1 : ByteArray) (h0 : a0.size ≤ 20000) (h1 : a1.size ≤ 20000) {e : Int} (he : e = 10 ∨ e = 11) {n : Nat} (hp : Sx.parse a0.data.toList = .error (e, (n : Int))) {k : Nat} (hnk : n + 1 ≤ k) (hk : k = a0.size ∨ (k < a0.size ∧ (a0.data.toList[k]? = some 32 ∨ a0.data.toList[k]? = some 10))) :
    Sx.parse (a0.extract 0 k ++ ({ data := #[10] } : ByteArray) ++ a1).data.toList = .error (e, (n : Int)) ∨ ∃ p' : Nat, Sx.parse (a0.extract 0 k ++ ({ data := #[10] } : ByteArray) ++ a1).data.toList = .error (9, (p' : Int)) ∧ k < p' := by
  have hz0 := Lib.size_eq a0
  have hz1 := Lib.size_eq a1
  rw [cut_list]
  have hkl : k ≤ a0.data.toList.length := by rcases hk with h | h <;> omega
  have hlen : (a0.data.toList.take k).length = k := by rw [List.length_take]; omega
  have hbig : (a0.data.toList.take k ++ 10 :: a1.data.toList).length ≤ 65536 := by rw [List.length_append, List.length_cons, hlen]; omega
  rcases hk with hk | ⟨hk, hq⟩
  · have htk : a0.data.toList.take k = a0.data.toList := List.take_of_length_le (by omega)
    rw [htk] at hbig hlen ⊢
    have h := Sx.parse_cuts0 hbig hp he (by omega)
    rw [hlen] at h
    exact h
  · obtain ⟨q, hq1, hq2⟩ : ∃ q : UInt8, (q = 10 ∨ q = 32) ∧ a0.data.toList[k]? = some q := by
      rcases hq with hq | hq
      · exact ⟨32, Or.inr rfl, hq⟩
      · exact ⟨10, Or.inl rfl, hq⟩
    have hsp : a0.data.toList = a0.data.toList.take k ++ q :: a0.data.toList.drop (k + 1) := by
      obtain ⟨hlt, hge⟩ := List.getElem?_eq_some_iff.1 hq2
      rw [← hge, ← List.drop_eq_getElem_cons hlt, List.take_append_drop]
    have hp' := hp
    rw [hsp] at hp'
    have h := Sx.parse_cuts hq1 hbig hp' he (by omega)
    rw [hlen] at h
    exact h
set_option maxHeartbeats 8000000 in
set_option maxRecDepth 100000 in
theorem cuts_long (a0 a1 : ByteArray) (h : (20000 : Int) < (a0.size : Int) ∨ (20000 : Int) < (a1.size : Int)) : Fn 4 #[.string a0, .string a1] [] fun e J => e = .returned (.bool true) ∧ J = [] := by
  intro w P hP h0
  have HS := Lib.hid (St.start hP h0)
  clear h0 hP
  by_cases h1 : (20000 : Int) < (a0.size : Int)
  · clear h
    go_enter Tryd.func4, Tryd.ntmps4
    go_wp2_with (first
      | (go_at_call 6; refine (St.call (pre := []) HS.out lives_Fn).mono ?_; rintro e w40 ⟨J, ⟨rfl, rfl⟩, hs⟩; simp only [List.cons_append, List.nil_append] at hs; have HS40 := Lib.hid hs; clear hs))
    go_ret
    exact ⟨_, ⟨rfl, rfl⟩, HS40.out.sel [] rfl⟩
  · have h2 := h.resolve_left h1
    clear h
    go_enter Tryd.func4, Tryd.ntmps4
    go_wp2_with (first
      | (go_at_call 6; refine (St.call (pre := []) HS.out lives_Fn).mono ?_; rintro e w40 ⟨J, ⟨rfl, rfl⟩, hs⟩; simp only [List.cons_append, List.nil_append] at hs; have HS40 := Lib.hid hs; clear hs))
    go_ret
    exact ⟨_, ⟨rfl, rfl⟩, HS40.out.sel [] rfl⟩
set_option maxHeartbeats 8000000 in
set_option maxRecDepth 100000 in
theorem cuts_ok (a0 a1 : ByteArray) (h1 : ¬ (20000 : Int) < (a0.size : Int)) (h2 : ¬ (20000 : Int) < (a1.size : Int)) (fs : List Sx.F) (hp : Sx.parse a0.data.toList = .ok fs) : Fn 4 #[.string a0, .string a1] [] fun e J => e = .returned (.bool true) ∧ J = [] := by
  intro w P hP h0
  have HS := Lib.hid (St.start hP h0)
  clear h0 hP
  have C1 := Lib.hid (parse_is a0 (by omega) hp)
  clear hp
  go_enter Tryd.func4, Tryd.ntmps4
  go_wp2_with (first
    | (go_at_call 7; refine (St.call (pre := []) HS.out C1.out).mono ?_; rintro e w1 ⟨J, ⟨q, c, rfl, rfl⟩, hs⟩; simp only [List.cons_append, List.nil_append] at hs; have HS1 := Lib.hid hs; clear hs)
    | (first | (refine wpl_alloc HS1.out _ rfl pgZ ?_; intro b5 w2 HS2; clear HS1) | (refine wpl_alloc HS2.out _ rfl bdZ ?_; intro b6 w3 HS3; clear HS2))
    | (first | (refine wpl_storeS HS3.out 2 rfl rfl pgT rfl fitsG ?_; intro w4 hs; have HS4 := Lib.hid (show St _ _ _ (_ :: _ :: _ :: []) from hs.out); clear hs HS3) | (refine wpl_storeS HS4.out 1 rfl rfl badT rfl (fitsB _ _) ?_; intro w5 hs; have HS5 := Lib.hid (show St _ _ _ (_ :: _ :: _ :: []) from hs.out); clear hs HS4; have c0 : w5.cell? ⟨b6, 0, none⟩ = some (.int .i64 0) := HS5.out.cell 1 rfl 0; have c1 : w5.cell? ⟨b6, 1, none⟩ = some (.int .i64 0) := HS5.out.cell 1 rfl 1; have p0 : w5.cell? ⟨b5, 0, none⟩ = some (.slice q fs.length c) := HS5.out.cell 2 rfl 0))
    | (go_at_call 6; refine (St.call (pre := []) HS5.out lives_Fn).mono ?_; rintro e w40 ⟨J, ⟨rfl, rfl⟩, hs⟩; simp only [List.cons_append, List.nil_append] at hs; have HS40 := Lib.hid hs; clear hs))
  go_ret
  exact ⟨_, ⟨rfl, rfl⟩, HS40.out.sel [] rfl⟩
set_option maxHeartbeats 8000000 in
set_option maxRecDepth 100000 in
theorem cuts_lex (a0 a1 : ByteArray) (h1 : ¬ (20000 : Int) < (a0.size : Int)) (h2 : ¬ (20000 : Int) < (a1.size : Int)) (er : Int) (n : Nat) (hp : Sx.parse a0.data.toList = .error (er, (n : Int))) (h10 : ¬ er = 10) (h11 : ¬ er = 11) (h00 : ¬ er = 0) : Fn 4 #[.string a0, .string a1] [] fun e J => e = .returned (.bool true) ∧ J = [] := by
  intro w P hP h0
  have HS := Lib.hid (St.start hP h0)
  clear h0 hP
  have C1 := Lib.hid (parse_no a0 (by omega) hp)
  have g10 : (er != 10) = true := by simpa using h10
  have g11 : (er != 11) = true := by simpa using h11
  have g00 : (er == 0) = false := by simpa using h00
  clear hp h10 h11 h00
  go_enter Tryd.func4, Tryd.ntmps4
  go_wp2_with (first
    | (go_at_call 7; refine (St.call (pre := []) HS.out C1.out).mono ?_; rintro e w1 ⟨J, ⟨rfl, rfl⟩, hs⟩; simp only [List.cons_append, List.nil_append] at hs; have HS1 := Lib.hid hs; clear hs)
    | (first | (refine wpl_alloc0 HS1.out _ rfl pgZ ?_; intro b5 w2 HS2; clear HS1) | (refine wpl_alloc HS2.out _ rfl bdZ ?_; intro b6 w3 HS3; clear HS2))
    | (first | (refine wpl_storeS HS3.out 0 rfl rfl pgT rfl fitsG ?_; intro w4 hs; have HS4 := Lib.hid (show St _ _ _ (_ :: _ :: []) from hs.out); clear hs HS3) | (refine wpl_storeS HS4.out 1 rfl rfl badT rfl (fitsB _ _) ?_; intro w5 hs; have HS5 := Lib.hid (show St _ _ _ (_ :: _ :: []) from hs.out); clear hs HS4; have c0 : w5.cell? ⟨b6, 0, none⟩ = some (.int .i64 er) := HS5.out.cell 1 rfl 0; have c1 : w5.cell? ⟨b6, 1, none⟩ = some (.int .i64 n) := HS5.out.cell 1 rfl 1; have p0 : w5.cell? ⟨b5, 0, none⟩ = some (.slice none 0 0) := HS5.out.cell 0 rfl 0))
    | (go_at_call 6; refine (St.call (pre := []) HS5.out lives_Fn).mono ?_; rintro e w40 ⟨J, ⟨rfl, rfl⟩, hs⟩; simp only [List.cons_append, List.nil_append] at hs; have HS40 := Lib.hid hs; clear hs))
  go_ret
  exact ⟨_, ⟨rfl, rfl⟩, HS40.out.sel [] rfl⟩
set_option maxHeartbeats 8000000 in
set_option maxRecDepth 100000 in
theorem cuts_end (a0 a1 : ByteArray) (h1 : ¬ (20000 : Int) < (a0.size : Int)) (h2 : ¬ (20000 : Int) < (a1.size : Int)) (er : Int) (n : Nat) (hp : Sx.parse a0.data.toList = .error (er, (n : Int))) (he : er = 10 ∨ er = 11) (hn : n = a0.size) : Fn 4 #[.string a0, .string a1] [] fun e J => e = .returned (.bool true) ∧ J = [] := by
  intro w P hP h0
  have HS := Lib.hid (St.start hP h0)
  clear h0 hP
  have C1 := Lib.hid (parse_no a0 (by omega) hp)
  have hn0 : ¬ (n : Int) < 0 := by omega
  have hnn : ((n : Int) == (a0.size : Int)) = true := by rw [hn]; simp
  have hng : ¬ (a0.size : Int) < (n : Int) := by omega
  clear hp hn
  rcases he with rfl | rfl
  · go_enter Tryd.func4, Tryd.ntmps4
    go_wp2_with (first
      | (go_at_call 7; refine (St.call (pre := []) HS.out C1.out).mono ?_; rintro e w1 ⟨J, ⟨rfl, rfl⟩, hs⟩; simp only [List.cons_append, List.nil_append] at hs; have HS1 := Lib.hid hs; clear hs)
      | (first | (refine wpl_alloc0 HS1.out _ rfl pgZ ?_; intro b5 w2 HS2; clear HS1) | (refine wpl_alloc HS2.out _ rfl bdZ ?_; intro b6 w3 HS3; clear HS2))
      | (first | (refine wpl_storeS HS3.out 0 rfl rfl pgT rfl fitsG ?_; intro w4 hs; have HS4 := Lib.hid (show St _ _ _ (_ :: _ :: []) from hs.out); clear hs HS3) | (refine wpl_storeS HS4.out 1 rfl rfl badT rfl (fitsB _ _) ?_; intro w5 hs; have HS5 := Lib.hid (show St _ _ _ (_ :: _ :: []) from hs.out); clear hs HS4; have c0 : w5.cell? ⟨b6, 0, none⟩ = some (.int .i64 10) := HS5.out.cell 1 rfl 0; have c1 : w5.cell? ⟨b6, 1, none⟩ = some (.int .i64 n) := HS5.out.cell 1 rfl 1; have p0 : w5.cell? ⟨b5, 0, none⟩ = some (.slice none 0 0) := HS5.out.cell 0 rfl 0))
      | (go_at_call 6; refine (St.call (pre := []) HS5.out lives_Fn).mono ?_; rintro e w40 ⟨J, ⟨rfl, rfl⟩, hs⟩; simp only [List.cons_append, List.nil_append] at hs; have HS40 := Lib.hid hs; clear hs))
    go_ret
    exact ⟨_, ⟨rfl, rfl⟩, HS40.out.sel [] rfl⟩
  · go_enter Tryd.func4, Tryd.ntmps4
    go_wp2_with (first
      | (go_at_call 7; refine (St.call (pre := []) HS.out C1.out).mono ?_; rintro e w1 ⟨J, ⟨rfl, rfl⟩, hs⟩; simp only [List.cons_append, List.nil_append] at hs; have HS1 := Lib.hid hs; clear hs)
      | (first | (refine wpl_alloc0 HS1.out _ rfl pgZ ?_; intro b5 w2 HS2; clear HS1) | (refine wpl_alloc HS2.out _ rfl bdZ ?_; intro b6 w3 HS3; clear HS2))
      | (first | (refine wpl_storeS HS3.out 0 rfl rfl pgT rfl fitsG ?_; intro w4 hs; have HS4 := Lib.hid (show St _ _ _ (_ :: _ :: []) from hs.out); clear hs HS3) | (refine wpl_storeS HS4.out 1 rfl rfl badT rfl (fitsB _ _) ?_; intro w5 hs; have HS5 := Lib.hid (show St _ _ _ (_ :: _ :: []) from hs.out); clear hs HS4; have c0 : w5.cell? ⟨b6, 0, none⟩ = some (.int .i64 11) := HS5.out.cell 1 rfl 0; have c1 : w5.cell? ⟨b6, 1, none⟩ = some (.int .i64 n) := HS5.out.cell 1 rfl 1; have p0 : w5.cell? ⟨b5, 0, none⟩ = some (.slice none 0 0) := HS5.out.cell 0 rfl 0))
      | (go_at_call 6; refine (St.call (pre := []) HS5.out lives_Fn).mono ?_; rintro e w40 ⟨J, ⟨rfl, rfl⟩, hs⟩; simp only [List.cons_append, List.nil_append] at hs; have HS40 := Lib.hid hs; clear hs))
    go_ret
    exact ⟨_, ⟨rfl, rfl⟩, HS40.out.sel [] rfl⟩
set_option maxHeartbeats 8000000 in
set_option maxRecDepth 100000 in
theorem cuts_go (a0 a1 : ByteArray) (h1 : ¬ (20000 : Int) < (a0.size : Int)) (h2 : ¬ (20000 : Int) < (a1.size : Int)) (er : Int) (n : Nat) (hp : Sx.parse a0.data.toList = .error (er, (n : Int))) (he : er = 10 ∨ er = 11) (hn : n < a0.size) : Fn 4 #[.string a0, .string a1] [] fun e J => e = .returned (.bool true) ∧ J = [] := by
  intro w P hP h0
  have HS := Lib.hid (St.start hP h0)
  clear h0 hP
  have C1 := Lib.hid (parse_no a0 (by omega) hp)
  have HCUT := Lib.hid (fun (k : Nat) hnk hk => cut_says a0 a1 (by omega) (by omega) he hp (k := k) hnk hk)
  have hn0 : ¬ (n : Int) < 0 := by omega
  have hnn : ¬ (a0.size : Int) < (n : Int) := by omega
  have hne : ((n : Int) == (a0.size : Int)) = false := by
    have : ¬ (n : Int) = (a0.size : Int) := by omega
    simpa using this
  have HSZ := Lib.hid (And.intro hn (And.intro h1 h2))
  clear hp hn
  rcases he with rfl | rfl
  · go_enter Tryd.func4, Tryd.ntmps4
    go_wp2_with (first
      | (go_at_call 7; refine (St.call (pre := []) HS.out C1.out).mono ?_; rintro e w1 ⟨J, ⟨rfl, rfl⟩, hs⟩; simp only [List.cons_append, List.nil_append] at hs; have HS1 := Lib.hid hs; clear hs)
      | (first | (refine wpl_alloc0 HS1.out _ rfl pgZ ?_; intro b5 w2 HS2; clear HS1) | (refine wpl_alloc HS2.out _ rfl bdZ ?_; intro b6 w3 HS3; clear HS2))
      | (first | (refine wpl_storeS HS3.out 0 rfl rfl pgT rfl fitsG ?_; intro w4 hs; have HS4 := Lib.hid (show St _ _ _ (_ :: _ :: []) from hs.out); clear hs HS3) | (refine wpl_storeS HS4.out 1 rfl rfl badT rfl (fitsB _ _) ?_; intro w5 hs; have HS5 := Lib.hid (show St _ _ _ (_ :: _ :: []) from hs.out); clear hs HS4; have c0 : w5.cell? ⟨b6, 0, none⟩ = some (.int .i64 10) := HS5.out.cell 1 rfl 0; have c1 : w5.cell? ⟨b6, 1, none⟩ = some (.int .i64 n) := HS5.out.cell 1 rfl 1; have p0 : w5.cell? ⟨b5, 0, none⟩ = some (.slice none 0 0) := HS5.out.cell 0 rfl 0)))
    go_loopw [7] (fun v wr => ∃ k : Nat, v = .int .i64 (k : Int) ∧ n + 1 ≤ k ∧ k ≤ a0.size ∧ Hid (St P w wr [.row b5 25 #[.slice none 0 0], .row b6 28 (bdA 10 n)])) (fun v _ => a0.size - (intOf v).toNat)
    case atStart => exact ⟨n + 1, by have := HSZ.out; go_num, Nat.le_refl _, by have := HSZ.out; omega, Lib.hid HS5.out⟩
    case round =>
      obtain ⟨k, rfl, hk1, hk2, HST⟩ := hrel
      clear HS5 c0 c1 p0
      have hsz : (a0.extract 0 k ++ ({ data := #[10] } : ByteArray) ++ a1).size ≤ 281474976710656 := by
        have := HSZ.out
        rw [Lib.size_eq, cut_list, List.length_append, List.length_cons, List.length_take]
        have := Lib.size_eq a1
        have := Lib.size_eq a0
        omega
      by_cases hk : k < a0.size
      · have hki : (k : Int) < (a0.size : Int) := by omega
        obtain ⟨d, hd⟩ : ∃ d, a0.data.toList[k]? = some d := ⟨_, List.getElem?_eq_getElem (by have := Lib.size_eq a0; omega)⟩
        have hidx : ∀ w : World, (Instr.index 9 (.string a0) (.int .i64 (k : Int))).run Tryd.prog w = .ok (.int .u8 d.toNat) w := fun w => run_byte w 9 a0 k k d Tryd.underlying9 rfl hd
        by_cases h32 : d = 32
        · subst h32
          have hcut := HCUT.out k hk1 (Or.inr ⟨hk, Or.inl hd⟩)
          have hidx2 : ∀ w : World, (Instr.index 9 (.string a0) (.int .i64 (k : Int))).run Tryd.prog w = .ok (.int .u8 32) w := hidx
          have hkle : (k : Int) ≤ (a0.size : Int) := by omega
          clear hd hidx HCUT
          rcases hcut with hcut | ⟨p', hcut, hlt⟩
          · have C2 := Lib.hid (parse_no _ hsz hcut)
            have E1 : ∀ w, (Op.equalIn 10000 28 (.agg #[.int .i64 10, .int .i64 n]) (.agg #[.int .i64 10, .int .i64 n])).run Tryd.prog w = .ok true w := fun w => by
              rw [bad_eq 10 n 10 n w]
              simp
            clear hcut hsz
            go_wp2_with (first
              | (go_at_call 7; refine (St.call (pre := []) HST.out C2.out).mono ?_; rintro e w20 ⟨J, ⟨rfl, rfl⟩, hs⟩; simp only [List.cons_append, List.nil_append] at hs; have HS20 := Lib.hid hs; clear hs; clear HST)
              | (first | (refine wpl_alloc HS20.out _ rfl pgZ ?_; intro b8 w21 HS21; clear HS20) | (refine wpl_alloc HS21.out _ rfl bdZ ?_; intro b9 w22 HS22; clear HS21))
              | (first | (refine wpl_storeS HS22.out 2 rfl rfl pgT rfl fitsG ?_; intro w23 hs; have HS23 := Lib.hid (show St _ _ _ (_ :: _ :: _ :: _ :: []) from hs.out); clear hs HS22) | (refine wpl_storeS HS23.out 1 rfl rfl badT rfl (fitsB _ _) ?_; intro w24 hs; have HS24 := Lib.hid (show St _ _ _ (_ :: _ :: _ :: _ :: []) from hs.out); clear hs HS23; have d0 : w24.cell? ⟨b9, 0, none⟩ = some (.int .i64 10) := HS24.out.cell 1 rfl 0; have d1 : w24.cell? ⟨b9, 1, none⟩ = some (.int .i64 n) := HS24.out.cell 1 rfl 1; have f0 : w24.cell? ⟨b6, 0, none⟩ = some (.int .i64 10) := HS24.out.cell 3 rfl 0; have f1 : w24.cell? ⟨b6, 1, none⟩ = some (.int .i64 n) := HS24.out.cell 3 rfl 1)))
            go_at_call 6
            refine (St.call (pre := []) HS24.out lives_Fn).mono ?_
            rintro e w40 ⟨J, ⟨rfl, rfl⟩, hs⟩
            simp only [List.cons_append, List.nil_append] at hs
            have HS40 := Lib.hid hs
            clear hs
            simp only []
            clear E1 d0 d1 f0 f1 C1 C2
            go_at_K
            go_wp2
            go_ret
            exact ⟨_, ⟨rfl, rfl⟩, HS40.out.sel [] rfl⟩
          · have C2 := Lib.hid (parse_no _ hsz hcut)
            have hlt' : (k : Int) < (p' : Int) := by omega
            have E1 : ∀ w, (Op.equalIn 10000 28 (.agg #[.int .i64 9, .int .i64 p']) (.agg #[.int .i64 10, .int .i64 n])).run Tryd.prog w = .ok false w := fun w => by
              rw [bad_eq 9 p' 10 n w]
              simp
            clear hcut hsz
            go_wp2_with (first
              | (go_at_call 7; refine (St.call (pre := []) HST.out C2.out).mono ?_; rintro e w20 ⟨J, ⟨rfl, rfl⟩, hs⟩; simp only [List.cons_append, List.nil_append] at hs; have HS20 := Lib.hid hs; clear hs; clear HST)
              | (first | (refine wpl_alloc HS20.out _ rfl pgZ ?_; intro b8 w21 HS21; clear HS20) | (refine wpl_alloc HS21.out _ rfl bdZ ?_; intro b9 w22 HS22; clear HS21))
              | (first | (refine wpl_storeS HS22.out 2 rfl rfl pgT rfl fitsG ?_; intro w23 hs; have HS23 := Lib.hid (show St _ _ _ (_ :: _ :: _ :: _ :: []) from hs.out); clear hs HS22) | (refine wpl_storeS HS23.out 1 rfl rfl badT rfl (fitsB _ _) ?_; intro w24 hs; have HS24 := Lib.hid (show St _ _ _ (_ :: _ :: _ :: _ :: []) from hs.out); clear hs HS23; have d0 : w24.cell? ⟨b9, 0, none⟩ = some (.int .i64 9) := HS24.out.cell 1 rfl 0; have d1 : w24.cell? ⟨b9, 1, none⟩ = some (.int .i64 p') := HS24.out.cell 1 rfl 1; have f0 : w24.cell? ⟨b6, 0, none⟩ = some (.int .i64 10) := HS24.out.cell 3 rfl 0; have f1 : w24.cell? ⟨b6, 1, none⟩ = some (.int .i64 n) := HS24.out.cell 3 rfl 1)))
            go_at_call 6
            refine (St.call (pre := []) HS24.out lives_Fn).mono ?_
            rintro e w40 ⟨J, ⟨rfl, rfl⟩, hs⟩
            simp only [List.cons_append, List.nil_append] at hs
            have HS40 := Lib.hid hs
            clear hs
            simp only []
            clear E1 d0 d1 f0 f1 C1 C2
            go_at_K
            go_wp2
            go_ret
            exact ⟨_, ⟨rfl, rfl⟩, HS40.out.sel [] rfl⟩
        · by_cases h10 : d = 10
          · subst h10
            have hcut := HCUT.out k hk1 (Or.inr ⟨hk, Or.inr hd⟩)
            have hidx2 : ∀ w : World, (Instr.index 9 (.string a0) (.int .i64 (k : Int))).run Tryd.prog w = .ok (.int .u8 10) w := hidx
            have hkle : (k : Int) ≤ (a0.size : Int) := by omega
            clear hd hidx HCUT h32
            rcases hcut with hcut | ⟨p', hcut, hlt⟩
            · have C2 := Lib.hid (parse_no _ hsz hcut)
              have E1 : ∀ w, (Op.equalIn 10000 28 (.agg #[.int .i64 10, .int .i64 n]) (.agg #[.int .i64 10, .int .i64 n])).run Tryd.prog w = .ok true w := fun w => by
                rw [bad_eq 10 n 10 n w]
                simp
              clear hcut hsz
              go_wp2_with (first
                | (go_at_call 7; refine (St.call (pre := []) HST.out C2.out).mono ?_; rintro e w20 ⟨J, ⟨rfl, rfl⟩, hs⟩; simp only [List.cons_append, List.nil_append] at hs; have HS20 := Lib.hid hs; clear hs; clear HST)
                | (first | (refine wpl_alloc HS20.out _ rfl pgZ ?_; intro b8 w21 HS21; clear HS20) | (refine wpl_alloc HS21.out _ rfl bdZ ?_; intro b9 w22 HS22; clear HS21))
                | (first | (refine wpl_storeS HS22.out 2 rfl rfl pgT rfl fitsG ?_; intro w23 hs; have HS23 := Lib.hid (show St _ _ _ (_ :: _ :: _ :: _ :: []) from hs.out); clear hs HS22) | (refine wpl_storeS HS23.out 1 rfl rfl badT rfl (fitsB _ _) ?_; intro w24 hs; have HS24 := Lib.hid (show St _ _ _ (_ :: _ :: _ :: _ :: []) from hs.out); clear hs HS23; have d0 : w24.cell? ⟨b9, 0, none⟩ = some (.int .i64 10) := HS24.out.cell 1 rfl 0; have d1 : w24.cell? ⟨b9, 1, none⟩ = some (.int .i64 n) := HS24.out.cell 1 rfl 1; have f0 : w24.cell? ⟨b6, 0, none⟩ = some (.int .i64 10) := HS24.out.cell 3 rfl 0; have f1 : w24.cell? ⟨b6, 1, none⟩ = some (.int .i64 n) := HS24.out.cell 3 rfl 1)))
              go_at_call 6
              refine (St.call (pre := []) HS24.out lives_Fn).mono ?_
              rintro e w40 ⟨J, ⟨rfl, rfl⟩, hs⟩
              simp only [List.cons_append, List.nil_append] at hs
              have HS40 := Lib.hid hs
              clear hs
              simp only []
              clear E1 d0 d1 f0 f1 C1 C2
              go_at_K
              go_wp2
              go_ret
              exact ⟨_, ⟨rfl, rfl⟩, HS40.out.sel [] rfl⟩
            · have C2 := Lib.hid (parse_no _ hsz hcut)
              have hlt' : (k : Int) < (p' : Int) := by omega
              have E1 : ∀ w, (Op.equalIn 10000 28 (.agg #[.int .i64 9, .int .i64 p']) (.agg #[.int .i64 10, .int .i64 n])).run Tryd.prog w = .ok false w := fun w => by
                rw [bad_eq 9 p' 10 n w]
                simp
              clear hcut hsz
              go_wp2_with (first
                | (go_at_call 7; refine (St.call (pre := []) HST.out C2.out).mono ?_; rintro e w20 ⟨J, ⟨rfl, rfl⟩, hs⟩; simp only [List.cons_append, List.nil_append] at hs; have HS20 := Lib.hid hs; clear hs; clear HST)
                | (first | (refine wpl_alloc HS20.out _ rfl pgZ ?_; intro b8 w21 HS21; clear HS20) | (refine wpl_alloc HS21.out _ rfl bdZ ?_; intro b9 w22 HS22; clear HS21))
                | (first | (refine wpl_storeS HS22.out 2 rfl rfl pgT rfl fitsG ?_; intro w23 hs; have HS23 := Lib.hid (show St _ _ _ (_ :: _ :: _ :: _ :: []) from hs.out); clear hs HS22) | (refine wpl_storeS HS23.out 1 rfl rfl badT rfl (fitsB _ _) ?_; intro w24 hs; have HS24 := Lib.hid (show St _ _ _ (_ :: _ :: _ :: _ :: []) from hs.out); clear hs HS23; have d0 : w24.cell? ⟨b9, 0, none⟩ = some (.int .i64 9) := HS24.out.cell 1 rfl 0; have d1 : w24.cell? ⟨b9, 1, none⟩ = some (.int .i64 p') := HS24.out.cell 1 rfl 1; have f0 : w24.cell? ⟨b6, 0, none⟩ = some (.int .i64 10) := HS24.out.cell 3 rfl 0; have f1 : w24.cell? ⟨b6, 1, none⟩ = some (.int .i64 n) := HS24.out.cell 3 rfl 1)))
              go_at_call 6
              refine (St.call (pre := []) HS24.out lives_Fn).mono ?_
              rintro e w40 ⟨J, ⟨rfl, rfl⟩, hs⟩
              simp only [List.cons_append, List.nil_append] at hs
              have HS40 := Lib.hid hs
              clear hs
              simp only []
              clear E1 d0 d1 f0 f1 C1 C2
              go_at_K
              go_wp2
              go_ret
              exact ⟨_, ⟨rfl, rfl⟩, HS40.out.sel [] rfl⟩
          · have e32 : ((d.toNat : Int) != 32) = true := by
              have : ¬ (d.toNat : Int) = 32 := fun h => h32 (UInt8.toNat.inj (by have : d.toNat = 32 := by omega
                                                                                 exact this))
              simpa using this
            have e10 : ((d.toNat : Int) != 10) = true := by
              have : ¬ (d.toNat : Int) = 10 := fun h => h10 (UInt8.toNat.inj (by have : d.toNat = 10 := by omega
                                                                                 exact this))
              simpa using this
            clear hd HCUT
            go_wp2
            exact ⟨⟨k + 1, by have := HSZ.out; go_num, by omega, by omega, HST⟩, by simp [intOf]; omega⟩
      · have hki : ¬ (k : Int) < (a0.size : Int) := by omega
        have hkle : (k : Int) ≤ (a0.size : Int) := by omega
        have hcut := HCUT.out k hk1 (Or.inl (by omega))
        clear HCUT
        rcases hcut with hcut | ⟨p', hcut, hlt⟩
        · have C2 := Lib.hid (parse_no _ hsz hcut)
          have E1 : ∀ w, (Op.equalIn 10000 28 (.agg #[.int .i64 10, .int .i64 n]) (.agg #[.int .i64 10, .int .i64 n])).run Tryd.prog w = .ok true w := fun w => by
            rw [bad_eq 10 n 10 n w]
            simp
          clear hcut hsz
          go_wp2_with (first
            | (go_at_call 7; refine (St.call (pre := []) HST.out C2.out).mono ?_; rintro e w20 ⟨J, ⟨rfl, rfl⟩, hs⟩; simp only [List.cons_append, List.nil_append] at hs; have HS20 := Lib.hid hs; clear hs; clear HST)
            | (first | (refine wpl_alloc HS20.out _ rfl pgZ ?_; intro b8 w21 HS21; clear HS20) | (refine wpl_alloc HS21.out _ rfl bdZ ?_; intro b9 w22 HS22; clear HS21))
            | (first | (refine wpl_storeS HS22.out 2 rfl rfl pgT rfl fitsG ?_; intro w23 hs; have HS23 := Lib.hid (show St _ _ _ (_ :: _ :: _ :: _ :: []) from hs.out); clear hs HS22) | (refine wpl_storeS HS23.out 1 rfl rfl badT rfl (fitsB _ _) ?_; intro w24 hs; have HS24 := Lib.hid (show St _ _ _ (_ :: _ :: _ :: _ :: []) from hs.out); clear hs HS23; have d0 : w24.cell? ⟨b9, 0, none⟩ = some (.int .i64 10) := HS24.out.cell 1 rfl 0; have d1 : w24.cell? ⟨b9, 1, none⟩ = some (.int .i64 n) := HS24.out.cell 1 rfl 1; have f0 : w24.cell? ⟨b6, 0, none⟩ = some (.int .i64 10) := HS24.out.cell 3 rfl 0; have f1 : w24.cell? ⟨b6, 1, none⟩ = some (.int .i64 n) := HS24.out.cell 3 rfl 1)))
          go_at_call 6
          refine (St.call (pre := []) HS24.out lives_Fn).mono ?_
          rintro e w40 ⟨J, ⟨rfl, rfl⟩, hs⟩
          simp only [List.cons_append, List.nil_append] at hs
          have HS40 := Lib.hid hs
          clear hs
          simp only []
          clear E1 d0 d1 f0 f1 C1 C2
          go_at_K
          go_wp2
          go_ret
          exact ⟨_, ⟨rfl, rfl⟩, HS40.out.sel [] rfl⟩
        · have C2 := Lib.hid (parse_no _ hsz hcut)
          have hlt' : (k : Int) < (p' : Int) := by omega
          have E1 : ∀ w, (Op.equalIn 10000 28 (.agg #[.int .i64 9, .int .i64 p']) (.agg #[.int .i64 10, .int .i64 n])).run Tryd.prog w = .ok false w := fun w => by
            rw [bad_eq 9 p' 10 n w]
            simp
          clear hcut hsz
          go_wp2_with (first
            | (go_at_call 7; refine (St.call (pre := []) HST.out C2.out).mono ?_; rintro e w20 ⟨J, ⟨rfl, rfl⟩, hs⟩; simp only [List.cons_append, List.nil_append] at hs; have HS20 := Lib.hid hs; clear hs; clear HST)
            | (first | (refine wpl_alloc HS20.out _ rfl pgZ ?_; intro b8 w21 HS21; clear HS20) | (refine wpl_alloc HS21.out _ rfl bdZ ?_; intro b9 w22 HS22; clear HS21))
            | (first | (refine wpl_storeS HS22.out 2 rfl rfl pgT rfl fitsG ?_; intro w23 hs; have HS23 := Lib.hid (show St _ _ _ (_ :: _ :: _ :: _ :: []) from hs.out); clear hs HS22) | (refine wpl_storeS HS23.out 1 rfl rfl badT rfl (fitsB _ _) ?_; intro w24 hs; have HS24 := Lib.hid (show St _ _ _ (_ :: _ :: _ :: _ :: []) from hs.out); clear hs HS23; have d0 : w24.cell? ⟨b9, 0, none⟩ = some (.int .i64 9) := HS24.out.cell 1 rfl 0; have d1 : w24.cell? ⟨b9, 1, none⟩ = some (.int .i64 p') := HS24.out.cell 1 rfl 1; have f0 : w24.cell? ⟨b6, 0, none⟩ = some (.int .i64 10) := HS24.out.cell 3 rfl 0; have f1 : w24.cell? ⟨b6, 1, none⟩ = some (.int .i64 n) := HS24.out.cell 3 rfl 1)))
          go_at_call 6
          refine (St.call (pre := []) HS24.out lives_Fn).mono ?_
          rintro e w40 ⟨J, ⟨rfl, rfl⟩, hs⟩
          simp only [List.cons_append, List.nil_append] at hs
          have HS40 := Lib.hid hs
          clear hs
          simp only []
          clear E1 d0 d1 f0 f1 C1 C2
          go_at_K
          go_wp2
          go_ret
          exact ⟨_, ⟨rfl, rfl⟩, HS40.out.sel [] rfl⟩
  · go_enter Tryd.func4, Tryd.ntmps4
    go_wp2_with (first
      | (go_at_call 7; refine (St.call (pre := []) HS.out C1.out).mono ?_; rintro e w1 ⟨J, ⟨rfl, rfl⟩, hs⟩; simp only [List.cons_append, List.nil_append] at hs; have HS1 := Lib.hid hs; clear hs)
      | (first | (refine wpl_alloc0 HS1.out _ rfl pgZ ?_; intro b5 w2 HS2; clear HS1) | (refine wpl_alloc HS2.out _ rfl bdZ ?_; intro b6 w3 HS3; clear HS2))
      | (first | (refine wpl_storeS HS3.out 0 rfl rfl pgT rfl fitsG ?_; intro w4 hs; have HS4 := Lib.hid (show St _ _ _ (_ :: _ :: []) from hs.out); clear hs HS3) | (refine wpl_storeS HS4.out 1 rfl rfl badT rfl (fitsB _ _) ?_; intro w5 hs; have HS5 := Lib.hid (show St _ _ _ (_ :: _ :: []) from hs.out); clear hs HS4; have c0 : w5.cell? ⟨b6, 0, none⟩ = some (.int .i64 11) := HS5.out.cell 1 rfl 0; have c1 : w5.cell? ⟨b6, 1, none⟩ = some (.int .i64 n) := HS5.out.cell 1 rfl 1; have p0 : w5.cell? ⟨b5, 0, none⟩ = some (.slice none 0 0) := HS5.out.cell 0 rfl 0)))
    go_loopw [7] (fun v wr => ∃ k : Nat, v = .int .i64 (k : Int) ∧ n + 1 ≤ k ∧ k ≤ a0.size ∧ Hid (St P w wr [.row b5 25 #[.slice none 0 0], .row b6 28 (bdA 11 n)])) (fun v _ => a0.size - (intOf v).toNat)
    case atStart => exact ⟨n + 1, by have := HSZ.out; go_num, Nat.le_refl _, by have := HSZ.out; omega, Lib.hid HS5.out⟩
    case round =>
      obtain ⟨k, rfl, hk1, hk2, HST⟩ := hrel
      clear HS5 c0 c1 p0
      have hsz : (a0.extract 0 k ++ ({ data := #[10] } : ByteArray) ++ a1).size ≤ 281474976710656 := by
        have := HSZ.out
        rw [Lib.size_eq, cut_list, List.length_append, List.length_cons, List.length_take]
        have := Lib.size_eq a1
        have := Lib.size_eq a0
        omega
      by_cases hk : k < a0.size
      · have hki : (k : Int) < (a0.size : Int) := by omega
        obtain ⟨d, hd⟩ : ∃ d, a0.data.toList[k]? = some d := ⟨_, List.getElem?_eq_getElem (by have := Lib.size_eq a0; omega)⟩
        have hidx : ∀ w : World, (Instr.index 9 (.string a0) (.int .i64 (k : Int))).run Tryd.prog w = .ok (.int .u8 d.toNat) w := fun w => run_byte w 9 a0 k k d Tryd.underlying9 rfl hd
        by_cases h32 : d = 32
        · subst h32
          have hcut := HCUT.out k hk1 (Or.inr ⟨hk, Or.inl hd⟩)
          have hidx2 : ∀ w : World, (Instr.index 9 (.string a0) (.int .i64 (k : Int))).run Tryd.prog w = .ok (.int .u8 32) w := hidx
          have hkle : (k : Int) ≤ (a0.size : Int) := by omega
          clear hd hidx HCUT
          rcases hcut with hcut | ⟨p', hcut, hlt⟩
          · have C2 := Lib.hid (parse_no _ hsz hcut)
            have E1 : ∀ w, (Op.equalIn 10000 28 (.agg #[.int .i64 11, .int .i64 n]) (.agg #[.int .i64 11, .int .i64 n])).run Tryd.prog w = .ok true w := fun w => by
              rw [bad_eq 11 n 11 n w]
              simp
            clear hcut hsz
            go_wp2_with (first
              | (go_at_call 7; refine (St.call (pre := []) HST.out C2.out).mono ?_; rintro e w20 ⟨J, ⟨rfl, rfl⟩, hs⟩; simp only [List.cons_append, List.nil_append] at hs; have HS20 := Lib.hid hs; clear hs; clear HST)
              | (first | (refine wpl_alloc HS20.out _ rfl pgZ ?_; intro b8 w21 HS21; clear HS20) | (refine wpl_alloc HS21.out _ rfl bdZ ?_; intro b9 w22 HS22; clear HS21))
              | (first | (refine wpl_storeS HS22.out 2 rfl rfl pgT rfl fitsG ?_; intro w23 hs; have HS23 := Lib.hid (show St _ _ _ (_ :: _ :: _ :: _ :: []) from hs.out); clear hs HS22) | (refine wpl_storeS HS23.out 1 rfl rfl badT rfl (fitsB _ _) ?_; intro w24 hs; have HS24 := Lib.hid (show St _ _ _ (_ :: _ :: _ :: _ :: []) from hs.out); clear hs HS23; have d0 : w24.cell? ⟨b9, 0, none⟩ = some (.int .i64 11) := HS24.out.cell 1 rfl 0; have d1 : w24.cell? ⟨b9, 1, none⟩ = some (.int .i64 n) := HS24.out.cell 1 rfl 1; have f0 : w24.cell? ⟨b6, 0, none⟩ = some (.int .i64 11) := HS24.out.cell 3 rfl 0; have f1 : w24.cell? ⟨b6, 1, none⟩ = some (.int .i64 n) := HS24.out.cell 3 rfl 1)))
            go_at_call 6
            refine (St.call (pre := []) HS24.out lives_Fn).mono ?_
            rintro e w40 ⟨J, ⟨rfl, rfl⟩, hs⟩
            simp only [List.cons_append, List.nil_append] at hs
            have HS40 := Lib.hid hs
            clear hs
            simp only []
            clear E1 d0 d1 f0 f1 C1 C2
            go_at_K
            go_wp2
            go_ret
            exact ⟨_, ⟨rfl, rfl⟩, HS40.out.sel [] rfl⟩
          · have C2 := Lib.hid (parse_no _ hsz hcut)
            have hlt' : (k : Int) < (p' : Int) := by omega
            have E1 : ∀ w, (Op.equalIn 10000 28 (.agg #[.int .i64 9, .int .i64 p']) (.agg #[.int .i64 11, .int .i64 n])).run Tryd.prog w = .ok false w := fun w => by
              rw [bad_eq 9 p' 11 n w]
              simp
            clear hcut hsz
            go_wp2_with (first
              | (go_at_call 7; refine (St.call (pre := []) HST.out C2.out).mono ?_; rintro e w20 ⟨J, ⟨rfl, rfl⟩, hs⟩; simp only [List.cons_append, List.nil_append] at hs; have HS20 := Lib.hid hs; clear hs; clear HST)
              | (first | (refine wpl_alloc HS20.out _ rfl pgZ ?_; intro b8 w21 HS21; clear HS20) | (refine wpl_alloc HS21.out _ rfl bdZ ?_; intro b9 w22 HS22; clear HS21))
              | (first | (refine wpl_storeS HS22.out 2 rfl rfl pgT rfl fitsG ?_; intro w23 hs; have HS23 := Lib.hid (show St _ _ _ (_ :: _ :: _ :: _ :: []) from hs.out); clear hs HS22) | (refine wpl_storeS HS23.out 1 rfl rfl badT rfl (fitsB _ _) ?_; intro w24 hs; have HS24 := Lib.hid (show St _ _ _ (_ :: _ :: _ :: _ :: []) from hs.out); clear hs HS23; have d0 : w24.cell? ⟨b9, 0, none⟩ = some (.int .i64 9) := HS24.out.cell 1 rfl 0; have d1 : w24.cell? ⟨b9, 1, none⟩ = some (.int .i64 p') := HS24.out.cell 1 rfl 1; have f0 : w24.cell? ⟨b6, 0, none⟩ = some (.int .i64 11) := HS24.out.cell 3 rfl 0; have f1 : w24.cell? ⟨b6, 1, none⟩ = some (.int .i64 n) := HS24.out.cell 3 rfl 1)))
            go_at_call 6
            refine (St.call (pre := []) HS24.out lives_Fn).mono ?_
            rintro e w40 ⟨J, ⟨rfl, rfl⟩, hs⟩
            simp only [List.cons_append, List.nil_append] at hs
            have HS40 := Lib.hid hs
            clear hs
            simp only []
            clear E1 d0 d1 f0 f1 C1 C2
            go_at_K
            go_wp2
            go_ret
            exact ⟨_, ⟨rfl, rfl⟩, HS40.out.sel [] rfl⟩
        · by_cases h10 : d = 10
          · subst h10
            have hcut := HCUT.out k hk1 (Or.inr ⟨hk, Or.inr hd⟩)
            have hidx2 : ∀ w : World, (Instr.index 9 (.string a0) (.int .i64 (k : Int))).run Tryd.prog w = .ok (.int .u8 10) w := hidx
            have hkle : (k : Int) ≤ (a0.size : Int) := by omega
            clear hd hidx HCUT h32
            rcases hcut with hcut | ⟨p', hcut, hlt⟩
            · have C2 := Lib.hid (parse_no _ hsz hcut)
              have E1 : ∀ w, (Op.equalIn 10000 28 (.agg #[.int .i64 11, .int .i64 n]) (.agg #[.int .i64 11, .int .i64 n])).run Tryd.prog w = .ok true w := fun w => by
                rw [bad_eq 11 n 11 n w]
                simp
              clear hcut hsz
              go_wp2_with (first
                | (go_at_call 7; refine (St.call (pre := []) HST.out C2.out).mono ?_; rintro e w20 ⟨J, ⟨rfl, rfl⟩, hs⟩; simp only [List.cons_append, List.nil_append] at hs; have HS20 := Lib.hid hs; clear hs; clear HST)
                | (first | (refine wpl_alloc HS20.out _ rfl pgZ ?_; intro b8 w21 HS21; clear HS20) | (refine wpl_alloc HS21.out _ rfl bdZ ?_; intro b9 w22 HS22; clear HS21))
                | (first | (refine wpl_storeS HS22.out 2 rfl rfl pgT rfl fitsG ?_; intro w23 hs; have HS23 := Lib.hid (show St _ _ _ (_ :: _ :: _ :: _ :: []) from hs.out); clear hs HS22) | (refine wpl_storeS HS23.out 1 rfl rfl badT rfl (fitsB _ _) ?_; intro w24 hs; have HS24 := Lib.hid (show St _ _ _ (_ :: _ :: _ :: _ :: []) from hs.out); clear hs HS23; have d0 : w24.cell? ⟨b9, 0, none⟩ = some (.int .i64 11) := HS24.out.cell 1 rfl 0; have d1 : w24.cell? ⟨b9, 1, none⟩ = some (.int .i64 n) := HS24.out.cell 1 rfl 1; have f0 : w24.cell? ⟨b6, 0, none⟩ = some (.int .i64 11) := HS24.out.cell 3 rfl 0; have f1 : w24.cell? ⟨b6, 1, none⟩ = some (.int .i64 n) := HS24.out.cell 3 rfl 1)))
              go_at_call 6
              refine (St.call (pre := []) HS24.out lives_Fn).mono ?_
              rintro e w40 ⟨J, ⟨rfl, rfl⟩, hs⟩
              simp only [List.cons_append, List.nil_append] at hs
              have HS40 := Lib.hid hs
              clear hs
              simp only []
              clear E1 d0 d1 f0 f1 C1 C2
              go_at_K
              go_wp2
              go_ret
              exact ⟨_, ⟨rfl, rfl⟩, HS40.out.sel [] rfl⟩
            · have C2 := Lib.hid (parse_no _ hsz hcut)
              have hlt' : (k : Int) < (p' : Int) := by omega
              have E1 : ∀ w, (Op.equalIn 10000 28 (.agg #[.int .i64 9, .int .i64 p']) (.agg #[.int .i64 11, .int .i64 n])).run Tryd.prog w = .ok false w := fun w => by
                rw [bad_eq 9 p' 11 n w]
                simp
              clear hcut hsz
              go_wp2_with (first
                | (go_at_call 7; refine (St.call (pre := []) HST.out C2.out).mono ?_; rintro e w20 ⟨J, ⟨rfl, rfl⟩, hs⟩; simp only [List.cons_append, List.nil_append] at hs; have HS20 := Lib.hid hs; clear hs; clear HST)
                | (first | (refine wpl_alloc HS20.out _ rfl pgZ ?_; intro b8 w21 HS21; clear HS20) | (refine wpl_alloc HS21.out _ rfl bdZ ?_; intro b9 w22 HS22; clear HS21))
                | (first | (refine wpl_storeS HS22.out 2 rfl rfl pgT rfl fitsG ?_; intro w23 hs; have HS23 := Lib.hid (show St _ _ _ (_ :: _ :: _ :: _ :: []) from hs.out); clear hs HS22) | (refine wpl_storeS HS23.out 1 rfl rfl badT rfl (fitsB _ _) ?_; intro w24 hs; have HS24 := Lib.hid (show St _ _ _ (_ :: _ :: _ :: _ :: []) from hs.out); clear hs HS23; have d0 : w24.cell? ⟨b9, 0, none⟩ = some (.int .i64 9) := HS24.out.cell 1 rfl 0; have d1 : w24.cell? ⟨b9, 1, none⟩ = some (.int .i64 p') := HS24.out.cell 1 rfl 1; have f0 : w24.cell? ⟨b6, 0, none⟩ = some (.int .i64 11) := HS24.out.cell 3 rfl 0; have f1 : w24.cell? ⟨b6, 1, none⟩ = some (.int .i64 n) := HS24.out.cell 3 rfl 1)))
              go_at_call 6
              refine (St.call (pre := []) HS24.out lives_Fn).mono ?_
              rintro e w40 ⟨J, ⟨rfl, rfl⟩, hs⟩
              simp only [List.cons_append, List.nil_append] at hs
              have HS40 := Lib.hid hs
              clear hs
              simp only []
              clear E1 d0 d1 f0 f1 C1 C2
              go_at_K
              go_wp2
              go_ret
              exact ⟨_, ⟨rfl, rfl⟩, HS40.out.sel [] rfl⟩
          · have e32 : ((d.toNat : Int) != 32) = true := by
              have : ¬ (d.toNat : Int) = 32 := fun h => h32 (UInt8.toNat.inj (by have : d.toNat = 32 := by omega
                                                                                 exact this))
              simpa using this
            have e10 : ((d.toNat : Int) != 10) = true := by
              have : ¬ (d.toNat : Int) = 10 := fun h => h10 (UInt8.toNat.inj (by have : d.toNat = 10 := by omega
                                                                                 exact this))
              simpa using this
            clear hd HCUT
            go_wp2
            exact ⟨⟨k + 1, by have := HSZ.out; go_num, by omega, by omega, HST⟩, by simp [intOf]; omega⟩
      · have hki : ¬ (k : Int) < (a0.size : Int) := by omega
        have hkle : (k : Int) ≤ (a0.size : Int) := by omega
        have hcut := HCUT.out k hk1 (Or.inl (by omega))
        clear HCUT
        rcases hcut with hcut | ⟨p', hcut, hlt⟩
        · have C2 := Lib.hid (parse_no _ hsz hcut)
          have E1 : ∀ w, (Op.equalIn 10000 28 (.agg #[.int .i64 11, .int .i64 n]) (.agg #[.int .i64 11, .int .i64 n])).run Tryd.prog w = .ok true w := fun w => by
            rw [bad_eq 11 n 11 n w]
            simp
          clear hcut hsz
          go_wp2_with (first
            | (go_at_call 7; refine (St.call (pre := []) HST.out C2.out).mono ?_; rintro e w20 ⟨J, ⟨rfl, rfl⟩, hs⟩; simp only [List.cons_append, List.nil_append] at hs; have HS20 := Lib.hid hs; clear hs; clear HST)
            | (first | (refine wpl_alloc HS20.out _ rfl pgZ ?_; intro b8 w21 HS21; clear HS20) | (refine wpl_alloc HS21.out _ rfl bdZ ?_; intro b9 w22 HS22; clear HS21))
            | (first | (refine wpl_storeS HS22.out 2 rfl rfl pgT rfl fitsG ?_; intro w23 hs; have HS23 := Lib.hid (show St _ _ _ (_ :: _ :: _ :: _ :: []) from hs.out); clear hs HS22) | (refine wpl_storeS HS23.out 1 rfl rfl badT rfl (fitsB _ _) ?_; intro w24 hs; have HS24 := Lib.hid (show St _ _ _ (_ :: _ :: _ :: _ :: []) from hs.out); clear hs HS23; have d0 : w24.cell? ⟨b9, 0, none⟩ = some (.int .i64 11) := HS24.out.cell 1 rfl 0; have d1 : w24.cell? ⟨b9, 1, none⟩ = some (.int .i64 n) := HS24.out.cell 1 rfl 1; have f0 : w24.cell? ⟨b6, 0, none⟩ = some (.int .i64 11) := HS24.out.cell 3 rfl 0; have f1 : w24.cell? ⟨b6, 1, none⟩ = some (.int .i64 n) := HS24.out.cell 3 rfl 1)))
          go_at_call 6
          refine (St.call (pre := []) HS24.out lives_Fn).mono ?_
          rintro e w40 ⟨J, ⟨rfl, rfl⟩, hs⟩
          simp only [List.cons_append, List.nil_append] at hs
          have HS40 := Lib.hid hs
          clear hs
          simp only []
          clear E1 d0 d1 f0 f1 C1 C2
          go_at_K
          go_wp2
          go_ret
          exact ⟨_, ⟨rfl, rfl⟩, HS40.out.sel [] rfl⟩
        · have C2 := Lib.hid (parse_no _ hsz hcut)
          have hlt' : (k : Int) < (p' : Int) := by omega
          have E1 : ∀ w, (Op.equalIn 10000 28 (.agg #[.int .i64 9, .int .i64 p']) (.agg #[.int .i64 11, .int .i64 n])).run Tryd.prog w = .ok false w := fun w => by
            rw [bad_eq 9 p' 11 n w]
            simp
          clear hcut hsz
          go_wp2_with (first
            | (go_at_call 7; refine (St.call (pre := []) HST.out C2.out).mono ?_; rintro e w20 ⟨J, ⟨rfl, rfl⟩, hs⟩; simp only [List.cons_append, List.nil_append] at hs; have HS20 := Lib.hid hs; clear hs; clear HST)
            | (first | (refine wpl_alloc HS20.out _ rfl pgZ ?_; intro b8 w21 HS21; clear HS20) | (refine wpl_alloc HS21.out _ rfl bdZ ?_; intro b9 w22 HS22; clear HS21))
            | (first | (refine wpl_storeS HS22.out 2 rfl rfl pgT rfl fitsG ?_; intro w23 hs; have HS23 := Lib.hid (show St _ _ _ (_ :: _ :: _ :: _ :: []) from hs.out); clear hs HS22) | (refine wpl_storeS HS23.out 1 rfl rfl badT rfl (fitsB _ _) ?_; intro w24 hs; have HS24 := Lib.hid (show St _ _ _ (_ :: _ :: _ :: _ :: []) from hs.out); clear hs HS23; have d0 : w24.cell? ⟨b9, 0, none⟩ = some (.int .i64 9) := HS24.out.cell 1 rfl 0; have d1 : w24.cell? ⟨b9, 1, none⟩ = some (.int .i64 p') := HS24.out.cell 1 rfl 1; have f0 : w24.cell? ⟨b6, 0, none⟩ = some (.int .i64 11) := HS24.out.cell 3 rfl 0; have f1 : w24.cell? ⟨b6, 1, none⟩ = some (.int .i64 n) := HS24.out.cell 3 rfl 1)))
          go_at_call 6
          refine (St.call (pre := []) HS24.out lives_Fn).mono ?_
          rintro e w40 ⟨J, ⟨rfl, rfl⟩, hs⟩
          simp only [List.cons_append, List.nil_append] at hs
          have HS40 := Lib.hid hs
          clear hs
          simp only []
          clear E1 d0 d1 f0 f1 C1 C2
          go_at_K
          go_wp2
          go_ret
          exact ⟨_, ⟨rfl, rfl⟩, HS40.out.sel [] rfl⟩
theorem cuts_Fn (a0 a1 : ByteArray) : Fn 4 #[.string a0, .string a1] [] fun e J => e = .returned (.bool true) ∧ J = [] := by
  by_cases h1 : (20000 : Int) < (a0.size : Int)
  · exact cuts_long a0 a1 (Or.inl h1)
  by_cases h2 : (20000 : Int) < (a1.size : Int)
  · exact cuts_long a0 a1 (Or.inr h2)
  cases hp : Sx.parse a0.data.toList with
  | ok fs => exact cuts_ok a0 a1 h1 h2 fs hp
  | error q =>
    obtain ⟨er, p⟩ := q
    obtain ⟨n, rfl, hn, h0⟩ := Sx.parse_pos hp
    by_cases he : er = 10 ∨ er = 11
    · have hle := hn he
      rw [← Lib.size_eq] at hle
      by_cases hz : n = a0.size
      · exact cuts_end a0 a1 h1 h2 er n hp he hz
      · exact cuts_go a0 a1 h1 h2 er n hp he (by omega)
    · exact cuts_lex a0 a1 h1 h2 er n hp (fun h => he (Or.inl h)) (fun h => he (Or.inr h)) h0
end Go.Proofs.YtpgjhgfneieeiaaDoor
