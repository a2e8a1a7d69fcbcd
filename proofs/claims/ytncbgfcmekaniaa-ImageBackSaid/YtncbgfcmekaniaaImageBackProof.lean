/-
  Law ImageBack: what is built is parsed as its head; with another byte ahead of the code it is not that image; what is parsed is built of its head and its code.
  Conditions: none but those of the given row.
-/
import Derived.Test.YtncbgfcmekaniaaRows
import Derived.Test.YtncbgfcmekaniaaImageL
import Derived.Test.YtncbgfcmekaniaaImageN
import Derived.WalkKit
import Derived.ProofKit
import Derived.OpenShut
import Derived.ShutString
import Derived.ChangeOld
import Derived.Below
import Derived.LoopN
import Derived.SizedLaws
namespace Go.Proofs.Ytncbgfcmekaniaa.imageBack
open Go.ChangeShapes Go.WideShapes Go.ChangeAt Go.RowKit
open Go.ChangeMaps (open_string shut_string)
set_option linter.unusedVariables false

theorem own : ownKnob Try.prog.godebug = none := by kernel_rfl
theorem laidOut : laidOutB Try.prog = true := by kernel_rfl

set_option linter.unusedSimpArgs false
theorem run_str1 (w : World) (b : UInt8) (B : ByteArray) (t : TypeId) (hB : Hid ((⟨#[b]⟩ : ByteArray) = B)) :
    Sem.run Try.prog (convert 41 9 (.slice (some ⟨w.heap.size, 0, none⟩) 1 1)) (w.alloc (.cells #[.int .u8 b.toNat] t))
      = .ok (.string B) (w.alloc (.cells #[.int .u8 b.toNat] t)) := by
  have e : strOfNums [(b.toNat : Int)] = B := by
    rw [← hB.out]
    show (⟨#[UInt8.ofNat ((b.toNat : Int)).toNat]⟩ : ByteArray) = _
    rw [Int.toNat_natCast, UInt8.ofNat_toNat]
  rw [← e]
  refine run_convert_bytes_arg _ 41 5 Try.underlying41 Try.underlying5 w.heap.size 0 1 1 [(b.toNat : Int)] rfl ?_ 9 Try.underlying9
  intro i hi
  match i, hi with
  | 0, _ => simp
set_option maxHeartbeats 8000000 in
set_option maxRecDepth 100000 in
theorem back_long (r h i o l m at' to' : Int) (c : ByteArray) (w : World) (hz : (10000 : Int) < (c.size : Int)) :
    Calls Try.prog 5 #[.agg #[.int .i64 r, .int .i64 h, .int .i64 i, .int .i64 o, .int .i64 l, .int .i64 m], .string c, .int .i64 at', .int .i64 to'] w fun e w' => e = .returned (.bool true) ∧ Below w.heap.size w w' := by
  go_enter Try.func5, Try.ntmps5
  go_wp2_with (go_at_call 6; refine (lives_any _).mono ?_; rintro e w1 ⟨rfl, hb1⟩)
  go_ret
  exact ⟨rfl, ((Below.refl w.heap.size w).alloc (Nat.le_refl _) _).trans (hb1.mono (by simp))⟩
set_option maxHeartbeats 8000000 in
set_option maxRecDepth 100000 in
theorem back_bad (r h i o l m at' to' E : Int) (c : ByteArray) (w : World) (hz : ¬ (10000 : Int) < (c.size : Int)) (hc : Hid (c.size ≤ 600000)) (hE : (E != 0) = true) (HB : Hid (Im.build ⟨r, h, i, o, l, m⟩ c = (⟨#[]⟩, E))) :
    Calls Try.prog 5 #[.agg #[.int .i64 r, .int .i64 h, .int .i64 i, .int .i64 o, .int .i64 l, .int .i64 m], .string c, .int .i64 at', .int .i64 to'] w fun e w' => e = .returned (.bool true) ∧ Below w.heap.size w w' := by
  go_enter Try.func5, Try.ntmps5
  go_wp2_with (first
    | (go_at_call 8; refine (own_any _ _ _ _ _ _ _).mono ?_; rintro e w1 ⟨rfl, hb1⟩; have HB1 := Lib.hid (((Below.refl w.heap.size w).alloc (Nat.le_refl _) _).trans (hb1.mono (by simp))); clear hb1)
    | (go_at_call 7; refine (build_lit _ _ _ _ _ _ _ _ E _ hc.out HB).mono ?_; rintro e w2 ⟨rfl, hb2⟩; have HB2 := Lib.hid (below_on HB1.out hb2 HB1.out.size); clear hb2)
    | (go_at_call 6; refine (lives_any _).mono ?_; rintro e w4 ⟨rfl, hb4⟩; have HB4 := Lib.hid (below_on HB2.out hb4 HB2.out.size); clear hb4))
  go_ret
  exact ⟨rfl, HB4.out⟩
set_option maxHeartbeats 16000000 in
set_option maxRecDepth 100000 in
theorem back_ok1 (r h i o l m at' to' : Int) (a : Nat) (b d : UInt8) (c S S1 B S2 T T2 : ByteArray) (w : World) (hz : ¬ (10000 : Int) < (c.size : Int)) (hc : Hid (c.size ≤ 600000)) (HB : Hid (Im.build ⟨r, h, i, o, l, m⟩ c = (S, 0))) (HZ : Hid (S.size = 64 + c.size)) (HP : Hid (Im.parse S = (⟨r, h, i, o, l, m⟩, 0)))
    (ha : a < 64) (hav : wrap64 ((IntKind.u64.wrap at').tmod 64) = (a : Int)) (hbv : (IntKind.u64.wrap to').tmod 256 % 256 = (b.toNat : Int)) (hS1 : Hid (S.extract 0 a = S1)) (hB : Hid ((⟨#[b]⟩ : ByteArray) = B)) (hS2 : Hid (S.extract (a + 1) S.size = S2)) (hT : Hid (S1 ++ B ++ S2 = T)) (HTz : Hid (T.size ≤ 600000)) (hd : Hid (S.data.toList[a]? = some d)) (HPT : Hid (Im.parse T = (⟨r, h, i, o, l, m⟩, 0)))
    (hT2 : Hid (T.extract 64 T.size = T2)) (HT64 : Hid (64 ≤ T.size)) (HT2z : Hid (T2.size ≤ 600000)) (HBT : Hid (Im.build ⟨r, h, i, o, l, m⟩ T2 = (T, 0))) (hbd : ((b.toNat : Int) == (d.toNat : Int)) = true) :
    Calls Try.prog 5 #[.agg #[.int .i64 r, .int .i64 h, .int .i64 i, .int .i64 o, .int .i64 l, .int .i64 m], .string c, .int .i64 at', .int .i64 to'] w fun e w' => e = .returned (.bool true) ∧ Below w.heap.size w w' := by
  have hbn : ((b.toNat : Int) != (d.toNat : Int)) = false := by rw [bne, hbd]; rfl
  have hS' : (S.size : Int) = 64 + (c.size : Int) := by have := HZ.out; omega
  have hSc : Hid (S.size ≤ 600000) := Lib.hid (by have := HZ.out; omega)
  have hwr : IntKind.i64.wrap (64 + (c.size : Int)) = 64 + (c.size : Int) := IntWalk.i64_in _ (by omega)
  have a0 : (0 : Int) ≤ (a : Int) := by omega
  have hwa : IntKind.i64.wrap ((a : Int) + 1) = (a : Int) + 1 := IntWalk.i64_in _ (by omega)
  have a1 : (a : Int) + 1 ≤ 64 := by omega
  have hsl1 : ∀ w : World, (Instr.slice 9 (.string S) none (some (.int .i64 (a : Int))) none).run Try.prog w = .ok (.string S1) w := fun w => by rw [run_slice_string_h w 9 S Try.underlying9 .i64 (a : Int) (by omega) (by have := HZ.out; omega)]; exact congrArg (fun t => Result.ok (Value.string t) w) hS1.out
  have hsl2 : ∀ w : World, (Instr.slice 9 (.string S) (some (.int .i64 ((a : Int) + 1))) none none).run Try.prog w = .ok (.string S2) w := fun w => by rw [run_slice_string_l w 9 S Try.underlying9 .i64 ((a : Int) + 1) (by omega) (by have := HZ.out; omega), show ((a : Int) + 1).toNat = a + 1 by omega]; exact congrArg (fun t => Result.ok (Value.string t) w) hS2.out
  have hsz1 : S1.size ≤ 600000 := by rw [← hS1.out, ByteArray.size_extract]; have := hSc.out; omega
  have hsz2 : S2.size ≤ 600000 := by rw [← hS2.out, ByteArray.size_extract]; have := hSc.out; omega
  have hszB : B.size = 1 := by rw [← hB.out]; rfl
  have hcat1 : ¬ 9223372036854775807 < S1.size + B.size := by omega
  have hcat2 : ¬ 9223372036854775807 < (S1 ++ B).size + S2.size := by rw [ByteArray.size_append]; omega
  have hcat3 : ¬ 9223372036854775807 < S1.size + B.size + S2.size := by omega
  have hidx : ∀ w : World, (Instr.index 9 (.string S) (.int .i64 (a : Int))).run Try.prog w = .ok (.int .u8 d.toNat) w := fun w => run_byte w 9 S a a d Try.underlying9 rfl hd.out
  have hsl3 : ∀ w : World, (Instr.slice 9 (.string T) (some (.int .i64 64)) none none).run Try.prog w = .ok (.string T2) w := fun w => by rw [run_slice_string_l w 9 T Try.underlying9 .i64 64 (by decide) (by have := HT64.out; omega)]; exact congrArg (fun t => Result.ok (Value.string t) w) hT2.out
  clear hsz1 hsz2 hszB
  have HN := Lib.hid (Im.HdAt.new w r h i o l m 25)
  go_enter Try.func5, Try.ntmps5
  go_wp2_with (first
    | (go_at_call 8; refine (own_any _ _ _ _ _ _ _).mono ?_; rintro e w1 ⟨rfl, hb1⟩; have HB1 := Lib.hid (((Below.refl w.heap.size w).alloc (Nat.le_refl _) _).trans (hb1.mono (by simp))); have HN1 := Lib.hid (HN.out.kept hb1); clear hb1)
    | (go_at_call 7; refine (build_lit _ _ _ _ _ _ _ S 0 _ hc.out HB).mono ?_; rintro e w2 ⟨rfl, hb2⟩; have HB2 := Lib.hid (below_on HB1.out hb2 HB1.out.size); have HN2 := Lib.hid (HN1.out.kept hb2); clear hb2)
    | (go_at_call 10; refine (parse_lit S _ _ _ _ _ _ _ _ hSc.out HP).mono ?_; rintro e w3 ⟨rfl, hb3⟩; have HB3 := Lib.hid (below_on HB2.out hb3 HB2.out.size); have HN3 := Lib.hid (HN2.out.kept hb3); clear hb3))
  have HB4 := Lib.hid (HB3.out.alloc (w := w3) HB3.out.size (.cells #[.int .i64 r, .int .i64 h, .int .i64 i, .int .i64 o, .int .i64 l, .int .i64 m] 30))
  have HN4 := Lib.hid (HN3.out.kept (W' := w3.alloc (.cells #[.int .i64 r, .int .i64 h, .int .i64 i, .int .i64 o, .int .i64 l, .int .i64 m] 30)) ((Below.refl _ _).alloc (Nat.le_refl _) _))
  have HM4 := Lib.hid (Im.HdAt.new w3 r h i o l m 30)
  obtain ⟨b3, hb3⟩ : ∃ b, w3.heap.size = b := ⟨_, rfl⟩
  rw [hb3] at HM4 ⊢
  clear HB1 HB2 HB3 HN HN1 HN2 HN3
  generalize w3.alloc (.cells #[.int .i64 r, .int .i64 h, .int .i64 i, .int .i64 o, .int .i64 l, .int .i64 m] 30) = w4 at HB4 HN4 HM4 ⊢
  clear hb3
  go_region_held3 (fun wx => Below w4.heap.size w4 wx ∧ Im.HdAt wx w.heap.size r h i o l m ∧ Im.HdAt wx b3 r h i o l m)
    (first | exact ⟨(Below.refl _ _).drew, HN4.out, HM4.out⟩ | exact hd2_step (by assumption) (by assumption))
    (first | (go_at_call 8; refine (own_any _ _ _ _ _ _ _).mono ?_; rintro e w5 ⟨rfl, hb5⟩) | fail)
  rename_i hH
  have HB5 := Lib.hid (below_on HB4.out hH.1 HB4.out.size)
  have HM5 := Lib.hid hH.2.2
  clear hH HN4 HM4 HB4 hb5
  go_wp2
  refine wp_region_held_drew (S := fun wx => Below w5.heap.size w5 wx) (by kernel_rfl) (Below.refl _ _).drew (fun hHeld => ?_)
  refine wpAnyH_take (i := 0) (v := ?_) rfl (by kernel_rfl) (by kernel_rfl) (by kernel_rfl) (fun _ _ _ h => h) (Or.inl ⟨by rfl, ?_⟩) (by assumption) ?_
  rotate_left
  · intro w hSw
    (try dsimp only at hSw)
    go_simp
    (try with_reducible rfl)
  (try simp only [Act.put, List.setIfInBounds_toArray, List.set_cons_zero, List.set_cons_succ])
  refine wpAnyH_take (i := 1) (v := ?_) rfl (by kernel_rfl) (by kernel_rfl) (by kernel_rfl) (fun _ _ _ h => h) (Or.inl ⟨by rfl, ?_⟩) (by assumption) ?_
  rotate_left
  · intro w hSw
    (try dsimp only at hSw)
    go_simp
    (try with_reducible rfl)
  (try simp only [Act.put, List.setIfInBounds_toArray, List.set_cons_zero, List.set_cons_succ])
  refine wpAnyH_take (i := 2) (v := ?_) rfl (by kernel_rfl) (by kernel_rfl) (by kernel_rfl) (fun _ _ _ h => h) (Or.inl ⟨by rfl, ?_⟩) (by assumption) ?_
  rotate_left
  · intro w hSw
    (try dsimp only at hSw)
    go_simp
    (try with_reducible rfl)
  (try simp only [Act.put, List.setIfInBounds_toArray, List.set_cons_zero, List.set_cons_succ])
  refine wpAnyH_take (i := 3) (v := ?_) rfl (by kernel_rfl) (by kernel_rfl) (by kernel_rfl) (fun _ _ _ h => h) (Or.inl ⟨by rfl, ?_⟩) (by assumption) ?_
  rotate_left
  · intro w hSw
    (try dsimp only at hSw)
    go_simp
    (try with_reducible rfl)
  (try simp only [Act.put, List.setIfInBounds_toArray, List.set_cons_zero, List.set_cons_succ])
  refine wpAnyH_take (i := 7) (v := ?_) rfl (by kernel_rfl) (by kernel_rfl) (by kernel_rfl) (fun _ _ _ h => h) (Or.inl ⟨by rfl, ?_⟩) (by assumption) ?_
  rotate_left
  · intro w hSw
    (try dsimp only at hSw)
    go_simp
    (try with_reducible rfl)
  (try simp only [Act.put, List.setIfInBounds_toArray, List.set_cons_zero, List.set_cons_succ])
  refine wpAnyH_take (i := 8) (v := ?_) rfl (by kernel_rfl) (by kernel_rfl) (by kernel_rfl) (fun _ _ _ h => h) (Or.inl ⟨by rfl, ?_⟩) (by assumption) ?_
  rotate_left
  · intro w hSw
    (try dsimp only at hSw)
    go_simp
    (try with_reducible rfl)
  (try simp only [Act.put, List.setIfInBounds_toArray, List.set_cons_zero, List.set_cons_succ])
  refine wpAnyH_take (i := 9) (v := ?_) rfl (by kernel_rfl) (by kernel_rfl) (by kernel_rfl) (fun _ _ _ h => h) (Or.inl ⟨by rfl, ?_⟩) (by assumption) ?_
  rotate_left
  · intro w hSw
    (try dsimp only at hSw)
    go_simp
    (try with_reducible rfl)
  (try simp only [Act.put, List.setIfInBounds_toArray, List.set_cons_zero, List.set_cons_succ])
  refine wpAnyH_take (i := 10) (v := ?_) rfl (by kernel_rfl) (by kernel_rfl) (by kernel_rfl) (fun _ _ _ h => h) (Or.inl ⟨by rfl, ?_⟩) (by assumption) ?_
  rotate_left
  · intro w hSw
    (try dsimp only at hSw)
    go_simp
    (try with_reducible rfl)
  (try simp only [Act.put, List.setIfInBounds_toArray, List.set_cons_zero, List.set_cons_succ])
  refine wpAnyH_ready (rs := [4]) (by kernel_rfl) (by simp) ?_
  refine AllReadyH.cons rfl (fun Kc hK => ?_) AllReadyH.nil
  go_simp
  refine hK.out _ _ ((Below.refl _ _).drew.alloc (Nat.le_refl _) _) (fun hHeld8 => ?_)
  clear hK Kc hHeld
  (try simp only [Act.put, List.setIfInBounds_toArray, List.set_cons_zero, List.set_cons_succ])
  have hcv : Sem.run Try.prog (convert 41 9 (.slice (some ⟨w5.heap.size, 0, none⟩) 1 1)) (w5.alloc (.cells #[.int .u8 b.toNat] 5)).drew = .ok (.string B) (w5.alloc (.cells #[.int .u8 b.toNat] 5)).drew := run_str1 w5.drew b B 5 hB
  refine wpAnyH_ready (rs := [5]) (by kernel_rfl) (by simp) ?_
  refine AllReadyH.cons rfl (fun Kc hK => ?_) AllReadyH.nil
  go_simp
  refine hK.out _ _ hHeld8 (fun hHeld => ?_)
  clear hK Kc hcv
  (try simp only [Act.put, List.setIfInBounds_toArray, List.set_cons_zero, List.set_cons_succ])
  refine wpAnyH_take (i := 6) (v := ?_) rfl (by kernel_rfl) (by kernel_rfl) (by kernel_rfl) (fun _ _ _ h => h) (Or.inl ⟨by rfl, ?_⟩) (by assumption) ?_
  rotate_left
  · intro w hSw
    (try dsimp only at hSw)
    go_simp
    (try with_reducible rfl)
  (try simp only [Act.put, List.setIfInBounds_toArray, List.set_cons_zero, List.set_cons_succ])
  refine wpAnyH_take (i := 11) (v := ?_) rfl (by kernel_rfl) (by kernel_rfl) (by kernel_rfl) (fun _ _ _ h => h) (Or.inl ⟨by rfl, ?_⟩) (by assumption) ?_
  rotate_left
  · intro w hSw
    (try dsimp only at hSw)
    go_simp
    (try with_reducible rfl)
  (try simp only [Act.put, List.setIfInBounds_toArray, List.set_cons_zero, List.set_cons_succ])
  refine wpAnyH_take (i := 12) (v := ?_) rfl (by kernel_rfl) (by kernel_rfl) (by kernel_rfl) (fun _ _ _ h => h) (Or.inl ⟨by rfl, ?_⟩) (by assumption) ?_
  rotate_left
  · intro w hSw
    (try dsimp only at hSw)
    go_simp
    (try with_reducible rfl)
  (try simp only [Act.put, List.setIfInBounds_toArray, List.set_cons_zero, List.set_cons_succ])
  refine wpAnyH_done (by kernel_rfl) ?_ _
  rw [hT.out]
  have HM6 := Lib.hid (HM5.out.kept hHeld)
  have HB6 := Lib.hid (below_on HB5.out hHeld HB5.out.size)
  clear hHeld hHeld8 HM5 HB5
  generalize (w5.alloc (.cells #[.int .u8 b.toNat] 5)).drew = w6 at HM6 HB6 ⊢
  have HPa := Lib.hid (fun w => parse_lit T r h i o l m 0 w HTz.out HPT)
  go_wp2_with (go_at_call 10; refine (HPa.out _).mono ?_; rintro e w7 ⟨rfl, hb7⟩; have HB7 := Lib.hid (below_on HB6.out hb7 HB6.out.size); have HM7 := Lib.hid (HM6.out.kept hb7); clear hb7)
  have HB8 := Lib.hid (HB7.out.alloc (w := w7) HB7.out.size (.cells #[.int .i64 r, .int .i64 h, .int .i64 i, .int .i64 o, .int .i64 l, .int .i64 m] 30))
  have HM8 := Lib.hid (HM7.out.kept (W' := w7.alloc (.cells #[.int .i64 r, .int .i64 h, .int .i64 i, .int .i64 o, .int .i64 l, .int .i64 m] 30)) ((Below.refl _ _).alloc (Nat.le_refl _) _))
  have HY8 := Lib.hid (Im.HdAt.new w7 r h i o l m 30)
  obtain ⟨b7, hb7⟩ : ∃ b, w7.heap.size = b := ⟨_, rfl⟩
  rw [hb7] at HY8 ⊢
  clear HB7 HM7
  generalize w7.alloc (.cells #[.int .i64 r, .int .i64 h, .int .i64 i, .int .i64 o, .int .i64 l, .int .i64 m] 30) = w8 at HB8 HM8 HY8 ⊢
  clear hb7
  go_region_held3 (fun wx => Below w8.heap.size w8 wx ∧ Im.HdAt wx b3 r h i o l m ∧ Im.HdAt wx b7 r h i o l m)
    (first | exact ⟨(Below.refl _ _).drew, HM8.out, HY8.out⟩ | exact hd2_step (by assumption) (by assumption))
    (first | (go_at_call 7; refine (build_lit _ _ _ _ _ _ _ T 0 _ HT2z.out HBT).mono ?_; rintro e w9 ⟨rfl, hb9⟩) | fail)
  rename_i hH
  have HB9 := Lib.hid (below_on HB8.out hH.1 HB8.out.size)
  have HM9 := Lib.hid hH.2.1
  have HY9 := Lib.hid hH.2.2
  clear hH HB8 HM8 HY8 hb9
  go_wp2
  go_region_held3 (fun wx => Below w9.heap.size w9 wx ∧ Im.HdAt wx b3 r h i o l m ∧ Im.HdAt wx b7 r h i o l m)
    (first | exact ⟨(Below.refl _ _).drew, HM9.out, HY9.out⟩ | exact hd2_step (by assumption) (by assumption))
    (first | (go_at_call 6; refine (lives_any _).mono ?_; rintro e w10 ⟨rfl, hb10⟩) | fail)
  rename_i hH
  go_wp2
  go_ret
  exact ⟨rfl, below_on HB9.out hH.1 HB9.out.size⟩
set_option maxHeartbeats 16000000 in
set_option maxRecDepth 100000 in
theorem back_ok2 (r h i o l m at' to' yr yh yi yo yl ym : Int) (a : Nat) (b d : UInt8) (c S S1 B S2 T T2 : ByteArray) (w : World) (hz : ¬ (10000 : Int) < (c.size : Int)) (hc : Hid (c.size ≤ 600000)) (HB : Hid (Im.build ⟨r, h, i, o, l, m⟩ c = (S, 0))) (HZ : Hid (S.size = 64 + c.size)) (HP : Hid (Im.parse S = (⟨r, h, i, o, l, m⟩, 0)))
    (ha : a < 64) (hav : wrap64 ((IntKind.u64.wrap at').tmod 64) = (a : Int)) (hbv : (IntKind.u64.wrap to').tmod 256 % 256 = (b.toNat : Int)) (hS1 : Hid (S.extract 0 a = S1)) (hB : Hid ((⟨#[b]⟩ : ByteArray) = B)) (hS2 : Hid (S.extract (a + 1) S.size = S2)) (hT : Hid (S1 ++ B ++ S2 = T)) (HTz : Hid (T.size ≤ 600000)) (hd : Hid (S.data.toList[a]? = some d)) (HPT : Hid (Im.parse T = (⟨yr, yh, yi, yo, yl, ym⟩, 0)))
    (hT2 : Hid (T.extract 64 T.size = T2)) (HT64 : Hid (64 ≤ T.size)) (HT2z : Hid (T2.size ≤ 600000)) (HBT : Hid (Im.build ⟨yr, yh, yi, yo, yl, ym⟩ T2 = (T, 0))) (hbd : ((b.toNat : Int) == (d.toNat : Int)) = false) (hE : ∀ w : World, ((if yr = r then (if yh = h then (if yi = i then (if yo = o then (if yl = l then (if ym = m then Result.ok (Next.value (Value.bool true)) w else Result.ok (Next.value (Value.bool false)) w) else Result.ok (Next.value (Value.bool false)) w) else Result.ok (Next.value (Value.bool false)) w) else Result.ok (Next.value (Value.bool false)) w) else Result.ok (Next.value (Value.bool false)) w) else Result.ok (Next.value (Value.bool false)) w) : Result Next) = Result.ok (Next.value (Value.bool false)) w) :
    Calls Try.prog 5 #[.agg #[.int .i64 r, .int .i64 h, .int .i64 i, .int .i64 o, .int .i64 l, .int .i64 m], .string c, .int .i64 at', .int .i64 to'] w fun e w' => e = .returned (.bool true) ∧ Below w.heap.size w w' := by
  have hbn : ((b.toNat : Int) != (d.toNat : Int)) = true := by rw [bne, hbd]; rfl
  have hS' : (S.size : Int) = 64 + (c.size : Int) := by have := HZ.out; omega
  have hSc : Hid (S.size ≤ 600000) := Lib.hid (by have := HZ.out; omega)
  have hwr : IntKind.i64.wrap (64 + (c.size : Int)) = 64 + (c.size : Int) := IntWalk.i64_in _ (by omega)
  have a0 : (0 : Int) ≤ (a : Int) := by omega
  have hwa : IntKind.i64.wrap ((a : Int) + 1) = (a : Int) + 1 := IntWalk.i64_in _ (by omega)
  have a1 : (a : Int) + 1 ≤ 64 := by omega
  have hsl1 : ∀ w : World, (Instr.slice 9 (.string S) none (some (.int .i64 (a : Int))) none).run Try.prog w = .ok (.string S1) w := fun w => by rw [run_slice_string_h w 9 S Try.underlying9 .i64 (a : Int) (by omega) (by have := HZ.out; omega)]; exact congrArg (fun t => Result.ok (Value.string t) w) hS1.out
  have hsl2 : ∀ w : World, (Instr.slice 9 (.string S) (some (.int .i64 ((a : Int) + 1))) none none).run Try.prog w = .ok (.string S2) w := fun w => by rw [run_slice_string_l w 9 S Try.underlying9 .i64 ((a : Int) + 1) (by omega) (by have := HZ.out; omega), show ((a : Int) + 1).toNat = a + 1 by omega]; exact congrArg (fun t => Result.ok (Value.string t) w) hS2.out
  have hsz1 : S1.size ≤ 600000 := by rw [← hS1.out, ByteArray.size_extract]; have := hSc.out; omega
  have hsz2 : S2.size ≤ 600000 := by rw [← hS2.out, ByteArray.size_extract]; have := hSc.out; omega
  have hszB : B.size = 1 := by rw [← hB.out]; rfl
  have hcat1 : ¬ 9223372036854775807 < S1.size + B.size := by omega
  have hcat2 : ¬ 9223372036854775807 < (S1 ++ B).size + S2.size := by rw [ByteArray.size_append]; omega
  have hcat3 : ¬ 9223372036854775807 < S1.size + B.size + S2.size := by omega
  have hidx : ∀ w : World, (Instr.index 9 (.string S) (.int .i64 (a : Int))).run Try.prog w = .ok (.int .u8 d.toNat) w := fun w => run_byte w 9 S a a d Try.underlying9 rfl hd.out
  have hsl3 : ∀ w : World, (Instr.slice 9 (.string T) (some (.int .i64 64)) none none).run Try.prog w = .ok (.string T2) w := fun w => by rw [run_slice_string_l w 9 T Try.underlying9 .i64 64 (by decide) (by have := HT64.out; omega)]; exact congrArg (fun t => Result.ok (Value.string t) w) hT2.out
  clear hsz1 hsz2 hszB
  have HN := Lib.hid (Im.HdAt.new w r h i o l m 25)
  go_enter Try.func5, Try.ntmps5
  go_wp2_with (first
    | (go_at_call 8; refine (own_any _ _ _ _ _ _ _).mono ?_; rintro e w1 ⟨rfl, hb1⟩; have HB1 := Lib.hid (((Below.refl w.heap.size w).alloc (Nat.le_refl _) _).trans (hb1.mono (by simp))); have HN1 := Lib.hid (HN.out.kept hb1); clear hb1)
    | (go_at_call 7; refine (build_lit _ _ _ _ _ _ _ S 0 _ hc.out HB).mono ?_; rintro e w2 ⟨rfl, hb2⟩; have HB2 := Lib.hid (below_on HB1.out hb2 HB1.out.size); have HN2 := Lib.hid (HN1.out.kept hb2); clear hb2)
    | (go_at_call 10; refine (parse_lit S _ _ _ _ _ _ _ _ hSc.out HP).mono ?_; rintro e w3 ⟨rfl, hb3⟩; have HB3 := Lib.hid (below_on HB2.out hb3 HB2.out.size); have HN3 := Lib.hid (HN2.out.kept hb3); clear hb3))
  have HB4 := Lib.hid (HB3.out.alloc (w := w3) HB3.out.size (.cells #[.int .i64 r, .int .i64 h, .int .i64 i, .int .i64 o, .int .i64 l, .int .i64 m] 30))
  have HN4 := Lib.hid (HN3.out.kept (W' := w3.alloc (.cells #[.int .i64 r, .int .i64 h, .int .i64 i, .int .i64 o, .int .i64 l, .int .i64 m] 30)) ((Below.refl _ _).alloc (Nat.le_refl _) _))
  have HM4 := Lib.hid (Im.HdAt.new w3 r h i o l m 30)
  obtain ⟨b3, hb3⟩ : ∃ b, w3.heap.size = b := ⟨_, rfl⟩
  rw [hb3] at HM4 ⊢
  clear HB1 HB2 HB3 HN HN1 HN2 HN3
  generalize w3.alloc (.cells #[.int .i64 r, .int .i64 h, .int .i64 i, .int .i64 o, .int .i64 l, .int .i64 m] 30) = w4 at HB4 HN4 HM4 ⊢
  clear hb3
  go_region_held3 (fun wx => Below w4.heap.size w4 wx ∧ Im.HdAt wx w.heap.size r h i o l m ∧ Im.HdAt wx b3 r h i o l m)
    (first | exact ⟨(Below.refl _ _).drew, HN4.out, HM4.out⟩ | exact hd2_step (by assumption) (by assumption))
    (first | (go_at_call 8; refine (own_any _ _ _ _ _ _ _).mono ?_; rintro e w5 ⟨rfl, hb5⟩) | fail)
  rename_i hH
  have HB5 := Lib.hid (below_on HB4.out hH.1 HB4.out.size)
  have HM5 := Lib.hid hH.2.2
  clear hH HN4 HM4 HB4 hb5
  go_wp2
  refine wp_region_held_drew (S := fun wx => Below w5.heap.size w5 wx) (by kernel_rfl) (Below.refl _ _).drew (fun hHeld => ?_)
  refine wpAnyH_take (i := 0) (v := ?_) rfl (by kernel_rfl) (by kernel_rfl) (by kernel_rfl) (fun _ _ _ h => h) (Or.inl ⟨by rfl, ?_⟩) (by assumption) ?_
  rotate_left
  · intro w hSw
    (try dsimp only at hSw)
    go_simp
    (try with_reducible rfl)
  (try simp only [Act.put, List.setIfInBounds_toArray, List.set_cons_zero, List.set_cons_succ])
  refine wpAnyH_take (i := 1) (v := ?_) rfl (by kernel_rfl) (by kernel_rfl) (by kernel_rfl) (fun _ _ _ h => h) (Or.inl ⟨by rfl, ?_⟩) (by assumption) ?_
  rotate_left
  · intro w hSw
    (try dsimp only at hSw)
    go_simp
    (try with_reducible rfl)
  (try simp only [Act.put, List.setIfInBounds_toArray, List.set_cons_zero, List.set_cons_succ])
  refine wpAnyH_take (i := 2) (v := ?_) rfl (by kernel_rfl) (by kernel_rfl) (by kernel_rfl) (fun _ _ _ h => h) (Or.inl ⟨by rfl, ?_⟩) (by assumption) ?_
  rotate_left
  · intro w hSw
    (try dsimp only at hSw)
    go_simp
    (try with_reducible rfl)
  (try simp only [Act.put, List.setIfInBounds_toArray, List.set_cons_zero, List.set_cons_succ])
  refine wpAnyH_take (i := 3) (v := ?_) rfl (by kernel_rfl) (by kernel_rfl) (by kernel_rfl) (fun _ _ _ h => h) (Or.inl ⟨by rfl, ?_⟩) (by assumption) ?_
  rotate_left
  · intro w hSw
    (try dsimp only at hSw)
    go_simp
    (try with_reducible rfl)
  (try simp only [Act.put, List.setIfInBounds_toArray, List.set_cons_zero, List.set_cons_succ])
  refine wpAnyH_take (i := 7) (v := ?_) rfl (by kernel_rfl) (by kernel_rfl) (by kernel_rfl) (fun _ _ _ h => h) (Or.inl ⟨by rfl, ?_⟩) (by assumption) ?_
  rotate_left
  · intro w hSw
    (try dsimp only at hSw)
    go_simp
    (try with_reducible rfl)
  (try simp only [Act.put, List.setIfInBounds_toArray, List.set_cons_zero, List.set_cons_succ])
  refine wpAnyH_take (i := 8) (v := ?_) rfl (by kernel_rfl) (by kernel_rfl) (by kernel_rfl) (fun _ _ _ h => h) (Or.inl ⟨by rfl, ?_⟩) (by assumption) ?_
  rotate_left
  · intro w hSw
    (try dsimp only at hSw)
    go_simp
    (try with_reducible rfl)
  (try simp only [Act.put, List.setIfInBounds_toArray, List.set_cons_zero, List.set_cons_succ])
  refine wpAnyH_take (i := 9) (v := ?_) rfl (by kernel_rfl) (by kernel_rfl) (by kernel_rfl) (fun _ _ _ h => h) (Or.inl ⟨by rfl, ?_⟩) (by assumption) ?_
  rotate_left
  · intro w hSw
    (try dsimp only at hSw)
    go_simp
    (try with_reducible rfl)
  (try simp only [Act.put, List.setIfInBounds_toArray, List.set_cons_zero, List.set_cons_succ])
  refine wpAnyH_take (i := 10) (v := ?_) rfl (by kernel_rfl) (by kernel_rfl) (by kernel_rfl) (fun _ _ _ h => h) (Or.inl ⟨by rfl, ?_⟩) (by assumption) ?_
  rotate_left
  · intro w hSw
    (try dsimp only at hSw)
    go_simp
    (try with_reducible rfl)
  (try simp only [Act.put, List.setIfInBounds_toArray, List.set_cons_zero, List.set_cons_succ])
  refine wpAnyH_ready (rs := [4]) (by kernel_rfl) (by simp) ?_
  refine AllReadyH.cons rfl (fun Kc hK => ?_) AllReadyH.nil
  go_simp
  refine hK.out _ _ ((Below.refl _ _).drew.alloc (Nat.le_refl _) _) (fun hHeld8 => ?_)
  clear hK Kc hHeld
  (try simp only [Act.put, List.setIfInBounds_toArray, List.set_cons_zero, List.set_cons_succ])
  have hcv : Sem.run Try.prog (convert 41 9 (.slice (some ⟨w5.heap.size, 0, none⟩) 1 1)) (w5.alloc (.cells #[.int .u8 b.toNat] 5)).drew = .ok (.string B) (w5.alloc (.cells #[.int .u8 b.toNat] 5)).drew := run_str1 w5.drew b B 5 hB
  refine wpAnyH_ready (rs := [5]) (by kernel_rfl) (by simp) ?_
  refine AllReadyH.cons rfl (fun Kc hK => ?_) AllReadyH.nil
  go_simp
  refine hK.out _ _ hHeld8 (fun hHeld => ?_)
  clear hK Kc hcv
  (try simp only [Act.put, List.setIfInBounds_toArray, List.set_cons_zero, List.set_cons_succ])
  refine wpAnyH_take (i := 6) (v := ?_) rfl (by kernel_rfl) (by kernel_rfl) (by kernel_rfl) (fun _ _ _ h => h) (Or.inl ⟨by rfl, ?_⟩) (by assumption) ?_
  rotate_left
  · intro w hSw
    (try dsimp only at hSw)
    go_simp
    (try with_reducible rfl)
  (try simp only [Act.put, List.setIfInBounds_toArray, List.set_cons_zero, List.set_cons_succ])
  refine wpAnyH_take (i := 11) (v := ?_) rfl (by kernel_rfl) (by kernel_rfl) (by kernel_rfl) (fun _ _ _ h => h) (Or.inl ⟨by rfl, ?_⟩) (by assumption) ?_
  rotate_left
  · intro w hSw
    (try dsimp only at hSw)
    go_simp
    (try with_reducible rfl)
  (try simp only [Act.put, List.setIfInBounds_toArray, List.set_cons_zero, List.set_cons_succ])
  refine wpAnyH_take (i := 12) (v := ?_) rfl (by kernel_rfl) (by kernel_rfl) (by kernel_rfl) (fun _ _ _ h => h) (Or.inl ⟨by rfl, ?_⟩) (by assumption) ?_
  rotate_left
  · intro w hSw
    (try dsimp only at hSw)
    go_simp
    (try with_reducible rfl)
  (try simp only [Act.put, List.setIfInBounds_toArray, List.set_cons_zero, List.set_cons_succ])
  refine wpAnyH_done (by kernel_rfl) ?_ _
  rw [hT.out]
  have HM6 := Lib.hid (HM5.out.kept hHeld)
  have HB6 := Lib.hid (below_on HB5.out hHeld HB5.out.size)
  clear hHeld hHeld8 HM5 HB5
  generalize (w5.alloc (.cells #[.int .u8 b.toNat] 5)).drew = w6 at HM6 HB6 ⊢
  have HPa := Lib.hid (fun w => parse_lit T yr yh yi yo yl ym 0 w HTz.out HPT)
  go_wp2_with (go_at_call 10; refine (HPa.out _).mono ?_; rintro e w7 ⟨rfl, hb7⟩; have HB7 := Lib.hid (below_on HB6.out hb7 HB6.out.size); have HM7 := Lib.hid (HM6.out.kept hb7); clear hb7)
  have HB8 := Lib.hid (HB7.out.alloc (w := w7) HB7.out.size (.cells #[.int .i64 yr, .int .i64 yh, .int .i64 yi, .int .i64 yo, .int .i64 yl, .int .i64 ym] 30))
  have HM8 := Lib.hid (HM7.out.kept (W' := w7.alloc (.cells #[.int .i64 yr, .int .i64 yh, .int .i64 yi, .int .i64 yo, .int .i64 yl, .int .i64 ym] 30)) ((Below.refl _ _).alloc (Nat.le_refl _) _))
  have HY8 := Lib.hid (Im.HdAt.new w7 yr yh yi yo yl ym 30)
  obtain ⟨b7, hb7⟩ : ∃ b, w7.heap.size = b := ⟨_, rfl⟩
  rw [hb7] at HY8 ⊢
  clear HB7 HM7
  generalize w7.alloc (.cells #[.int .i64 yr, .int .i64 yh, .int .i64 yi, .int .i64 yo, .int .i64 yl, .int .i64 ym] 30) = w8 at HB8 HM8 HY8 ⊢
  clear hb7
  go_region_held3 (fun wx => Below w8.heap.size w8 wx ∧ Im.HdAt wx b3 r h i o l m ∧ Im.HdAt wx b7 yr yh yi yo yl ym)
    (first | exact ⟨(Below.refl _ _).drew, HM8.out, HY8.out⟩ | exact hd2_step (by assumption) (by assumption))
    (first | (go_at_call 7; refine (build_lit _ _ _ _ _ _ _ T 0 _ HT2z.out HBT).mono ?_; rintro e w9 ⟨rfl, hb9⟩) | fail)
  rename_i hH
  have HB9 := Lib.hid (below_on HB8.out hH.1 HB8.out.size)
  have HM9 := Lib.hid hH.2.1
  have HY9 := Lib.hid hH.2.2
  clear hH HB8 HM8 HY8 hb9
  go_wp2
  go_region_held3 (fun wx => Below w9.heap.size w9 wx ∧ Im.HdAt wx b3 r h i o l m ∧ Im.HdAt wx b7 yr yh yi yo yl ym)
    (first | exact ⟨(Below.refl _ _).drew, HM9.out, HY9.out⟩ | exact hd2_step (by assumption) (by assumption))
    (first | (go_at_call 6; refine (lives_any _).mono ?_; rintro e w10 ⟨rfl, hb10⟩) | fail)
  rename_i hH
  go_wp2
  go_ret
  exact ⟨rfl, below_on HB9.out hH.1 HB9.out.size⟩
set_option maxHeartbeats 16000000 in
set_option maxRecDepth 100000 in
theorem back_ok3 (r h i o l m at' to' g : Int) (a : Nat) (b d : UInt8) (c S S1 B S2 T : ByteArray) (w : World) (hz : ¬ (10000 : Int) < (c.size : Int)) (hc : Hid (c.size ≤ 600000)) (HB : Hid (Im.build ⟨r, h, i, o, l, m⟩ c = (S, 0))) (HZ : Hid (S.size = 64 + c.size)) (HP : Hid (Im.parse S = (⟨r, h, i, o, l, m⟩, 0)))
    (ha : a < 64) (hav : wrap64 ((IntKind.u64.wrap at').tmod 64) = (a : Int)) (hbv : (IntKind.u64.wrap to').tmod 256 % 256 = (b.toNat : Int)) (hS1 : Hid (S.extract 0 a = S1)) (hB : Hid ((⟨#[b]⟩ : ByteArray) = B)) (hS2 : Hid (S.extract (a + 1) S.size = S2)) (hT : Hid (S1 ++ B ++ S2 = T)) (HTz : Hid (T.size ≤ 600000)) (hd : Hid (S.data.toList[a]? = some d)) (HPT : Hid (Im.parse T = (⟨0, 0, 0, 0, 0, 0⟩, g))) (hbd : ((b.toNat : Int) == (d.toNat : Int)) = false) (hg : (g == 0) = false) :
    Calls Try.prog 5 #[.agg #[.int .i64 r, .int .i64 h, .int .i64 i, .int .i64 o, .int .i64 l, .int .i64 m], .string c, .int .i64 at', .int .i64 to'] w fun e w' => e = .returned (.bool true) ∧ Below w.heap.size w w' := by
  have hbn : ((b.toNat : Int) != (d.toNat : Int)) = true := by rw [bne, hbd]; rfl
  have hS' : (S.size : Int) = 64 + (c.size : Int) := by have := HZ.out; omega
  have hSc : Hid (S.size ≤ 600000) := Lib.hid (by have := HZ.out; omega)
  have hwr : IntKind.i64.wrap (64 + (c.size : Int)) = 64 + (c.size : Int) := IntWalk.i64_in _ (by omega)
  have a0 : (0 : Int) ≤ (a : Int) := by omega
  have hwa : IntKind.i64.wrap ((a : Int) + 1) = (a : Int) + 1 := IntWalk.i64_in _ (by omega)
  have a1 : (a : Int) + 1 ≤ 64 := by omega
  have hsl1 : ∀ w : World, (Instr.slice 9 (.string S) none (some (.int .i64 (a : Int))) none).run Try.prog w = .ok (.string S1) w := fun w => by rw [run_slice_string_h w 9 S Try.underlying9 .i64 (a : Int) (by omega) (by have := HZ.out; omega)]; exact congrArg (fun t => Result.ok (Value.string t) w) hS1.out
  have hsl2 : ∀ w : World, (Instr.slice 9 (.string S) (some (.int .i64 ((a : Int) + 1))) none none).run Try.prog w = .ok (.string S2) w := fun w => by rw [run_slice_string_l w 9 S Try.underlying9 .i64 ((a : Int) + 1) (by omega) (by have := HZ.out; omega), show ((a : Int) + 1).toNat = a + 1 by omega]; exact congrArg (fun t => Result.ok (Value.string t) w) hS2.out
  have hsz1 : S1.size ≤ 600000 := by rw [← hS1.out, ByteArray.size_extract]; have := hSc.out; omega
  have hsz2 : S2.size ≤ 600000 := by rw [← hS2.out, ByteArray.size_extract]; have := hSc.out; omega
  have hszB : B.size = 1 := by rw [← hB.out]; rfl
  have hcat1 : ¬ 9223372036854775807 < S1.size + B.size := by omega
  have hcat2 : ¬ 9223372036854775807 < (S1 ++ B).size + S2.size := by rw [ByteArray.size_append]; omega
  have hcat3 : ¬ 9223372036854775807 < S1.size + B.size + S2.size := by omega
  have hidx : ∀ w : World, (Instr.index 9 (.string S) (.int .i64 (a : Int))).run Try.prog w = .ok (.int .u8 d.toNat) w := fun w => run_byte w 9 S a a d Try.underlying9 rfl hd.out
  clear hsz1 hsz2 hszB
  have HN := Lib.hid (Im.HdAt.new w r h i o l m 25)
  go_enter Try.func5, Try.ntmps5
  go_wp2_with (first
    | (go_at_call 8; refine (own_any _ _ _ _ _ _ _).mono ?_; rintro e w1 ⟨rfl, hb1⟩; have HB1 := Lib.hid (((Below.refl w.heap.size w).alloc (Nat.le_refl _) _).trans (hb1.mono (by simp))); have HN1 := Lib.hid (HN.out.kept hb1); clear hb1)
    | (go_at_call 7; refine (build_lit _ _ _ _ _ _ _ S 0 _ hc.out HB).mono ?_; rintro e w2 ⟨rfl, hb2⟩; have HB2 := Lib.hid (below_on HB1.out hb2 HB1.out.size); have HN2 := Lib.hid (HN1.out.kept hb2); clear hb2)
    | (go_at_call 10; refine (parse_lit S _ _ _ _ _ _ _ _ hSc.out HP).mono ?_; rintro e w3 ⟨rfl, hb3⟩; have HB3 := Lib.hid (below_on HB2.out hb3 HB2.out.size); have HN3 := Lib.hid (HN2.out.kept hb3); clear hb3))
  have HB4 := Lib.hid (HB3.out.alloc (w := w3) HB3.out.size (.cells #[.int .i64 r, .int .i64 h, .int .i64 i, .int .i64 o, .int .i64 l, .int .i64 m] 30))
  have HN4 := Lib.hid (HN3.out.kept (W' := w3.alloc (.cells #[.int .i64 r, .int .i64 h, .int .i64 i, .int .i64 o, .int .i64 l, .int .i64 m] 30)) ((Below.refl _ _).alloc (Nat.le_refl _) _))
  have HM4 := Lib.hid (Im.HdAt.new w3 r h i o l m 30)
  obtain ⟨b3, hb3⟩ : ∃ b, w3.heap.size = b := ⟨_, rfl⟩
  rw [hb3] at HM4 ⊢
  clear HB1 HB2 HB3 HN HN1 HN2 HN3
  generalize w3.alloc (.cells #[.int .i64 r, .int .i64 h, .int .i64 i, .int .i64 o, .int .i64 l, .int .i64 m] 30) = w4 at HB4 HN4 HM4 ⊢
  clear hb3
  go_region_held3 (fun wx => Below w4.heap.size w4 wx ∧ Im.HdAt wx w.heap.size r h i o l m ∧ Im.HdAt wx b3 r h i o l m)
    (first | exact ⟨(Below.refl _ _).drew, HN4.out, HM4.out⟩ | exact hd2_step (by assumption) (by assumption))
    (first | (go_at_call 8; refine (own_any _ _ _ _ _ _ _).mono ?_; rintro e w5 ⟨rfl, hb5⟩) | fail)
  rename_i hH
  have HB5 := Lib.hid (below_on HB4.out hH.1 HB4.out.size)
  have HM5 := Lib.hid hH.2.2
  clear hH HN4 HM4 HB4 hb5
  go_wp2
  refine wp_region_held_drew (S := fun wx => Below w5.heap.size w5 wx) (by kernel_rfl) (Below.refl _ _).drew (fun hHeld => ?_)
  refine wpAnyH_take (i := 0) (v := ?_) rfl (by kernel_rfl) (by kernel_rfl) (by kernel_rfl) (fun _ _ _ h => h) (Or.inl ⟨by rfl, ?_⟩) (by assumption) ?_
  rotate_left
  · intro w hSw
    (try dsimp only at hSw)
    go_simp
    (try with_reducible rfl)
  (try simp only [Act.put, List.setIfInBounds_toArray, List.set_cons_zero, List.set_cons_succ])
  refine wpAnyH_take (i := 1) (v := ?_) rfl (by kernel_rfl) (by kernel_rfl) (by kernel_rfl) (fun _ _ _ h => h) (Or.inl ⟨by rfl, ?_⟩) (by assumption) ?_
  rotate_left
  · intro w hSw
    (try dsimp only at hSw)
    go_simp
    (try with_reducible rfl)
  (try simp only [Act.put, List.setIfInBounds_toArray, List.set_cons_zero, List.set_cons_succ])
  refine wpAnyH_take (i := 2) (v := ?_) rfl (by kernel_rfl) (by kernel_rfl) (by kernel_rfl) (fun _ _ _ h => h) (Or.inl ⟨by rfl, ?_⟩) (by assumption) ?_
  rotate_left
  · intro w hSw
    (try dsimp only at hSw)
    go_simp
    (try with_reducible rfl)
  (try simp only [Act.put, List.setIfInBounds_toArray, List.set_cons_zero, List.set_cons_succ])
  refine wpAnyH_take (i := 3) (v := ?_) rfl (by kernel_rfl) (by kernel_rfl) (by kernel_rfl) (fun _ _ _ h => h) (Or.inl ⟨by rfl, ?_⟩) (by assumption) ?_
  rotate_left
  · intro w hSw
    (try dsimp only at hSw)
    go_simp
    (try with_reducible rfl)
  (try simp only [Act.put, List.setIfInBounds_toArray, List.set_cons_zero, List.set_cons_succ])
  refine wpAnyH_take (i := 7) (v := ?_) rfl (by kernel_rfl) (by kernel_rfl) (by kernel_rfl) (fun _ _ _ h => h) (Or.inl ⟨by rfl, ?_⟩) (by assumption) ?_
  rotate_left
  · intro w hSw
    (try dsimp only at hSw)
    go_simp
    (try with_reducible rfl)
  (try simp only [Act.put, List.setIfInBounds_toArray, List.set_cons_zero, List.set_cons_succ])
  refine wpAnyH_take (i := 8) (v := ?_) rfl (by kernel_rfl) (by kernel_rfl) (by kernel_rfl) (fun _ _ _ h => h) (Or.inl ⟨by rfl, ?_⟩) (by assumption) ?_
  rotate_left
  · intro w hSw
    (try dsimp only at hSw)
    go_simp
    (try with_reducible rfl)
  (try simp only [Act.put, List.setIfInBounds_toArray, List.set_cons_zero, List.set_cons_succ])
  refine wpAnyH_take (i := 9) (v := ?_) rfl (by kernel_rfl) (by kernel_rfl) (by kernel_rfl) (fun _ _ _ h => h) (Or.inl ⟨by rfl, ?_⟩) (by assumption) ?_
  rotate_left
  · intro w hSw
    (try dsimp only at hSw)
    go_simp
    (try with_reducible rfl)
  (try simp only [Act.put, List.setIfInBounds_toArray, List.set_cons_zero, List.set_cons_succ])
  refine wpAnyH_take (i := 10) (v := ?_) rfl (by kernel_rfl) (by kernel_rfl) (by kernel_rfl) (fun _ _ _ h => h) (Or.inl ⟨by rfl, ?_⟩) (by assumption) ?_
  rotate_left
  · intro w hSw
    (try dsimp only at hSw)
    go_simp
    (try with_reducible rfl)
  (try simp only [Act.put, List.setIfInBounds_toArray, List.set_cons_zero, List.set_cons_succ])
  refine wpAnyH_ready (rs := [4]) (by kernel_rfl) (by simp) ?_
  refine AllReadyH.cons rfl (fun Kc hK => ?_) AllReadyH.nil
  go_simp
  refine hK.out _ _ ((Below.refl _ _).drew.alloc (Nat.le_refl _) _) (fun hHeld8 => ?_)
  clear hK Kc hHeld
  (try simp only [Act.put, List.setIfInBounds_toArray, List.set_cons_zero, List.set_cons_succ])
  have hcv : Sem.run Try.prog (convert 41 9 (.slice (some ⟨w5.heap.size, 0, none⟩) 1 1)) (w5.alloc (.cells #[.int .u8 b.toNat] 5)).drew = .ok (.string B) (w5.alloc (.cells #[.int .u8 b.toNat] 5)).drew := run_str1 w5.drew b B 5 hB
  refine wpAnyH_ready (rs := [5]) (by kernel_rfl) (by simp) ?_
  refine AllReadyH.cons rfl (fun Kc hK => ?_) AllReadyH.nil
  go_simp
  refine hK.out _ _ hHeld8 (fun hHeld => ?_)
  clear hK Kc hcv
  (try simp only [Act.put, List.setIfInBounds_toArray, List.set_cons_zero, List.set_cons_succ])
  refine wpAnyH_take (i := 6) (v := ?_) rfl (by kernel_rfl) (by kernel_rfl) (by kernel_rfl) (fun _ _ _ h => h) (Or.inl ⟨by rfl, ?_⟩) (by assumption) ?_
  rotate_left
  · intro w hSw
    (try dsimp only at hSw)
    go_simp
    (try with_reducible rfl)
  (try simp only [Act.put, List.setIfInBounds_toArray, List.set_cons_zero, List.set_cons_succ])
  refine wpAnyH_take (i := 11) (v := ?_) rfl (by kernel_rfl) (by kernel_rfl) (by kernel_rfl) (fun _ _ _ h => h) (Or.inl ⟨by rfl, ?_⟩) (by assumption) ?_
  rotate_left
  · intro w hSw
    (try dsimp only at hSw)
    go_simp
    (try with_reducible rfl)
  (try simp only [Act.put, List.setIfInBounds_toArray, List.set_cons_zero, List.set_cons_succ])
  refine wpAnyH_take (i := 12) (v := ?_) rfl (by kernel_rfl) (by kernel_rfl) (by kernel_rfl) (fun _ _ _ h => h) (Or.inl ⟨by rfl, ?_⟩) (by assumption) ?_
  rotate_left
  · intro w hSw
    (try dsimp only at hSw)
    go_simp
    (try with_reducible rfl)
  (try simp only [Act.put, List.setIfInBounds_toArray, List.set_cons_zero, List.set_cons_succ])
  refine wpAnyH_done (by kernel_rfl) ?_ _
  rw [hT.out]
  have HM6 := Lib.hid (HM5.out.kept hHeld)
  have HB6 := Lib.hid (below_on HB5.out hHeld HB5.out.size)
  clear hHeld hHeld8 HM5 HB5
  generalize (w5.alloc (.cells #[.int .u8 b.toNat] 5)).drew = w6 at HM6 HB6 ⊢
  have HPa := Lib.hid (fun w => parse_lit T 0 0 0 0 0 0 g w HTz.out HPT)
  go_wp2_with (first
    | (go_at_call 10; refine (HPa.out _).mono ?_; rintro e w7 ⟨rfl, hb7⟩; have HB7 := Lib.hid (below_on HB6.out hb7 HB6.out.size); clear hb7)
    | (go_at_call 6; refine (lives_any _).mono ?_; rintro e w9 ⟨rfl, hb9⟩; have HB9 := Lib.hid (below_on (HB7.out.alloc HB7.out.size _) hb9 (HB7.out.alloc HB7.out.size _).size); clear hb9))
  go_ret
  exact ⟨rfl, HB9.out⟩
theorem back_all (r h i o l m at' to' : Int) (c : ByteArray) (w : World) (hm : c.size ≤ maxLen) :
    Calls Try.prog 5 #[.agg #[.int .i64 r, .int .i64 h, .int .i64 i, .int .i64 o, .int .i64 l, .int .i64 m], .string c, .int .i64 at', .int .i64 to'] w fun e w' => e = .returned (.bool true) ∧ Below w.heap.size w w' := by
  by_cases hz : (10000 : Int) < (c.size : Int)
  · exact back_long r h i o l m at' to' c w hz
  · have hc : Hid (c.size ≤ 600000) := Lib.hid (by omega)
    by_cases hE : Im.err ⟨r, h, i, o, l, m⟩ (64 + c.size : Nat) = 0
    · have hB : Im.build ⟨r, h, i, o, l, m⟩ c = (Im.F ⟨r, h, i, o, l, m⟩ ++ c, 0) := by unfold Im.build; rw [if_pos hE]
      have hZ : (Im.F ⟨r, h, i, o, l, m⟩ ++ c).size = 64 + c.size := by rw [ByteArray.size_append, Im.F_size]
      have hP := Im.back hE
      obtain ⟨a, hav⟩ : ∃ a : Nat, wrap64 ((IntKind.u64.wrap at').tmod 64) = (a : Int) ∧ a < 64 := by
        refine ⟨((IntKind.u64.wrap at').tmod 64).toNat, ?_⟩
        have h0 : 0 ≤ IntKind.u64.wrap at' := by simp only [IntKind.wrap_u64]; omega
        rw [Int.tmod_eq_emod_of_nonneg h0]
        unfold wrap64
        omega
      obtain ⟨b, hbv⟩ : ∃ b : UInt8, (IntKind.u64.wrap to').tmod 256 % 256 = (b.toNat : Int) := by
        refine ⟨UInt8.ofNat ((IntKind.u64.wrap to').tmod 256 % 256).toNat, ?_⟩
        have h0 : 0 ≤ (IntKind.u64.wrap to').tmod 256 % 256 := by omega
        rw [UInt8.toNat_ofNat']
        omega
      obtain ⟨hav, ha⟩ := hav
      have haS : a < (Im.F ⟨r, h, i, o, l, m⟩ ++ c).size := by omega
      obtain ⟨d, hd⟩ : ∃ d, (Im.F ⟨r, h, i, o, l, m⟩ ++ c).data.toList[a]? = some d := ⟨_, List.getElem?_eq_getElem (by rw [Array.length_toList]; exact haS)⟩
      have hTz := Im.put_size (Im.F ⟨r, h, i, o, l, m⟩ ++ c) a b haS
      rcases hx : Im.parse (Im.put (Im.F ⟨r, h, i, o, l, m⟩ ++ c) a b) with ⟨⟨yr, yh, yi, yo, yl, ym⟩, g⟩
      by_cases hbd : b = d
      · have hsame := Im.put_same (Im.F ⟨r, h, i, o, l, m⟩ ++ c) a b (by rw [hbd]; exact hd)
        rw [hsame, hP] at hx
        obtain ⟨e1, e2⟩ := Prod.mk.inj hx
        injection e1 with k0 k1 k2 k3 k4 k5
        subst k0 k1 k2 k3 k4 k5 e2
        have hPT : Im.parse (Im.put (Im.F ⟨r, h, i, o, l, m⟩ ++ c) a b) = (⟨r, h, i, o, l, m⟩, 0) := by rw [hsame]; exact hP
        obtain ⟨f1, f2, f3⟩ := Im.forth hPT
        have f4 : Im.build ⟨r, h, i, o, l, m⟩ ((Im.put (Im.F ⟨r, h, i, o, l, m⟩ ++ c) a b).extract 64 (Im.put (Im.F ⟨r, h, i, o, l, m⟩ ++ c) a b).size) = (Im.put (Im.F ⟨r, h, i, o, l, m⟩ ++ c) a b, 0) := by unfold Im.build; rw [if_pos f2, f3]
        exact back_ok1 r h i o l m at' to' a b d c _ _ _ _ _ _ w hz hc (Lib.hid hB) (Lib.hid hZ) (Lib.hid hP) ha hav hbv (Lib.hid rfl) (Lib.hid rfl) (Lib.hid rfl) (Lib.hid rfl) (Lib.hid (by show (Im.put _ _ _).size ≤ _; omega)) (Lib.hid hd) (Lib.hid hPT) (Lib.hid rfl) (Lib.hid f1) (Lib.hid (by show ((Im.put _ _ _).extract 64 _).size ≤ _; rw [ByteArray.size_extract]; omega)) (Lib.hid f4) (by rw [hbd]; simp)
      · have hnb : ((b.toNat : Int) == (d.toNat : Int)) = false := by
          rw [beq_eq_false_iff_ne]
          intro e
          exact hbd (UInt8.toNat_inj.1 (by omega))
        by_cases hg : g = 0
        · subst hg
          have hne := Im.put_other ha hd hbd hx
          obtain ⟨f1, f2, f3⟩ := Im.forth hx
          have f4 : Im.build ⟨yr, yh, yi, yo, yl, ym⟩ ((Im.put (Im.F ⟨r, h, i, o, l, m⟩ ++ c) a b).extract 64 (Im.put (Im.F ⟨r, h, i, o, l, m⟩ ++ c) a b).size) = (Im.put (Im.F ⟨r, h, i, o, l, m⟩ ++ c) a b, 0) := by unfold Im.build; rw [if_pos f2, f3]
          have hE2 : ∀ w : World, ((if yr = r then (if yh = h then (if yi = i then (if yo = o then (if yl = l then (if ym = m then Result.ok (Next.value (Value.bool true)) w else Result.ok (Next.value (Value.bool false)) w) else Result.ok (Next.value (Value.bool false)) w) else Result.ok (Next.value (Value.bool false)) w) else Result.ok (Next.value (Value.bool false)) w) else Result.ok (Next.value (Value.bool false)) w) else Result.ok (Next.value (Value.bool false)) w) : Result Next) = Result.ok (Next.value (Value.bool false)) w := fun w => by
            by_cases k0 : yr = r
            · by_cases k1 : yh = h
              · by_cases k2 : yi = i
                · by_cases k3 : yo = o
                  · by_cases k4 : yl = l
                    · by_cases k5 : ym = m
                      · exact absurd (by rw [k0, k1, k2, k3, k4, k5]) hne
                      · simp [k0, k1, k2, k3, k4, k5]
                    · simp [k0, k1, k2, k3, k4]
                  · simp [k0, k1, k2, k3]
                · simp [k0, k1, k2]
              · simp [k0, k1]
            · simp [k0]
          exact back_ok2 r h i o l m at' to' yr yh yi yo yl ym a b d c _ _ _ _ _ _ w hz hc (Lib.hid hB) (Lib.hid hZ) (Lib.hid hP) ha hav hbv (Lib.hid rfl) (Lib.hid rfl) (Lib.hid rfl) (Lib.hid rfl) (Lib.hid (by show (Im.put _ _ _).size ≤ _; omega)) (Lib.hid hd) (Lib.hid hx) (Lib.hid rfl) (Lib.hid f1) (Lib.hid (by show ((Im.put _ _ _).extract 64 _).size ≤ _; rw [ByteArray.size_extract]; omega)) (Lib.hid f4) hnb hE2
        · have hy := Im.parse_no (s := Im.put (Im.F ⟨r, h, i, o, l, m⟩ ++ c) a b) (by rw [hx]; exact hg)
          rw [hx] at hy
          injection hy with k0 k1 k2 k3 k4 k5
          subst k0 k1 k2 k3 k4 k5
          exact back_ok3 r h i o l m at' to' g a b d c _ _ _ _ _ w hz hc (Lib.hid hB) (Lib.hid hZ) (Lib.hid hP) ha hav hbv (Lib.hid rfl) (Lib.hid rfl) (Lib.hid rfl) (Lib.hid rfl) (Lib.hid (by show (Im.put _ _ _).size ≤ _; omega)) (Lib.hid hd) (Lib.hid hx) hnb (by simpa using hg)
    · have hB : Im.build ⟨r, h, i, o, l, m⟩ c = (⟨#[]⟩, Im.err ⟨r, h, i, o, l, m⟩ (64 + c.size : Nat)) := by unfold Im.build; rw [if_neg hE]
      exact back_bad r h i o l m at' to' _ c w hz hc (by simpa using hE) (Lib.hid hB)
theorem walk (xr0 xh0 xi0 xo0 xl0 xm0 : Int) (a1 : ByteArray) (a2 : Int) (a3 : Int) (wl0 : (Lit.int .i64 xl0).wf = true) (w1 : a1.size ≤ maxLen) (w2 : (Lit.int .i64 a2).wf = true) (w3 : (Lit.int .i64 a3).wf = true) (w : World) :
    Calls Try.prog 5 #[.agg #[.int .i64 xr0, .int .i64 xh0, .int .i64 xi0, .int .i64 xo0, .int .i64 xl0, .int .i64 xm0], .string a1, .int .i64 a2, .int .i64 a3] w fun e w' => e = .returned (.bool true) ∧ Below w.heap.size w w' := by
  exact back_all xr0 xh0 xi0 xo0 xl0 xm0 a2 a3 a1 w w1

set_option maxRecDepth 100000 in
theorem lifted (os : Os) (started : os.Started) (H : Type) (enc : TypeId × Value → H) :
    ReturnsInHanded {} Try.checked os 5 .any (Rows.imageBackSpec.pre6 enc Try.prog Try.f5 Rows.imageBackRow.domain false) (Rows.imageBackSpec.post enc Try.prog Try.f5 false true false false) := by
  refine returnsInHanded_of_change (C := Try.checked) own started (by kernel_rfl) Try.func5
    (ChangeSpec.witness6 (enc := enc) (C := Try.checked) false ⟨#[], #[.agg #[.int .i64 0, .int .i64 0, .int .i64 0, .int .i64 0, .int .i64 0, .int .i64 0], .string ByteArray.empty, .int .i64 0, .int .i64 0], []⟩ 8 (by kernel_rfl) (by kernel_rfl) (by kernel_rfl) (by kernel_rfl)) ?_
  intro W base args ds gs before hval0 hW hcnd _
  have hval : ∀ (j : Nat) t v, Try.f5.params[j]? = some t → args[j]? = some v → Value.okWide Try.prog W .any base t v := hval0
  have hW' := hW
  obtain ⟨p, q, hA0, hV, rfl, hfz, hnd⟩ := hW
  have hA : DataW.TrodAll enc Try.prog W 0 (fun _ => true) true Try.f5.params.toList args.toList ds p := hA0
  rw [Try.params5] at hA hval
  obtain ⟨v0, vs0, d0, ds0, p0, q0, hargs, rfl, rfl, h0, r0⟩ := trodAll_cons hA
  obtain ⟨v1, vs1, d1, ds1, p1, q1, rfl, rfl, rfl, h1, r1⟩ := trodAll_cons r0
  obtain ⟨v2, vs2, d2, ds2, p2, q2, rfl, rfl, rfl, h2, r2⟩ := trodAll_cons r1
  obtain ⟨v3, vs3, d3, ds3, p3, q3, rfl, rfl, rfl, h3, r3⟩ := trodAll_cons r2
  obtain ⟨rfl, rfl, rfl⟩ := trodAll_nil r3
  obtain rfl : args = #[v0, v1, v2, v3] := by cases args; simp_all
  obtain ⟨rfl, rfl⟩ := trodVars_none hV
  have k0 := h0
  have lt0 : ∀ x ∈ p0, x.block < W.heap.size := by obtain ⟨m, hm⟩ := k0; exact DataW.trod_lt m _ _ _ hm
  obtain ⟨xr0, xh0, xi0, xo0, xl0, xm0, rfl, wl0⟩ := open_head (hval 0 25 v0 rfl rfl) h0
  obtain ⟨a1, rfl, rfl, rfl, w1⟩ := open_string Try.underlying9 (hval 1 9 v1 rfl rfl) h1
  obtain ⟨a2, rfl, rfl, rfl, w2⟩ := open_int Try.underlying3 (hval 2 3 v2 rfl rfl) h2
  obtain ⟨a3, rfl, rfl, rfl, w3⟩ := open_int Try.underlying3 (hval 3 3 v3 rfl rfl) h3
  clear hA0 hval0
  refine (walk xr0 xh0 xi0 xo0 xl0 xm0 a1 a2 a3 wl0 w1 w2 w3 W).mono fun e W' ⟨he, bel⟩ => ?_
  subst he
  exact ⟨_, rfl, _, _, _, [], _, [], hW', trodAll_mk1 (shut_bool Try.underlying4 _), (trodAll_cons_mk (Below.trod laidOut (by kernel_rfl) (of_decide_eq_true (by kernel_rfl)) k0 bel lt0) (trodAll_cons_mk (shut_string Try.underlying9 w1) (trodAll_cons_mk (shut_int Try.underlying3 w2) (trodAll_cons_mk (shut_int Try.underlying3 w3) trodAll_mk0)))), rfl, bel.frame _, fun h => by cases h⟩

theorem over : Rows.imageBackRow.holds Try.pinned (OpenSpec.ofChange Rows.imageBackSpec) :=
  OpenClaim.holds_of_wide 5 Try.f5 rfl rfl rfl rfl rfl rfl rfl ⟨rfl, rfl, rfl, rfl, rfl⟩ rfl rfl rfl rfl rfl (by kernel_rfl) Try.func5 (by kernel_rfl)
    (of_decide_eq_true (by kernel_rfl)) (by unfold Func.isWrapper; first | (rw [if_pos (by decide +kernel)]; kernel_rfl) | (rw [if_neg (by decide +kernel)]; exact ⟨rfl, rfl⟩))
    (fun os started H enc _ => lifted os started H enc)

/-- the statement -/
theorem proved : Rows.ImageBackSaid := over
#print axioms proved
end Go.Proofs.Ytncbgfcmekaniaa.imageBack
