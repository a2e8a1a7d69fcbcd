/-
  What the document's own Check and Size of thumb return: what the program's do.
-/
import Derived.Test.YtennhpfhgbmnfaaThumbM9
import Derived.Test.YtennhpfhgbmnfaaCpuT1
import Derived.Test.YtennhpfhgbmnfaaCpuT2
import Derived.Test.YtennhpfhgbmnfaaCpuT3
import Derived.Test.YtennhpfhgbmnfaaCpuT4
namespace Go.Proofs.Ytennhpfhgbmnfaa
open Go.ChangeShapes Go.WideShapes Go.ChangeAt Go.RowKit

theorem tmod_ne (n : Int) : (n.tmod 2 != 0) = (n % 2 != 0) := by
  have := tmod_two n; rw [bne, bne, this]
theorem chk2 {i : Th.Ins} (h : Th.fits i = false) : Th.check i = 2 := by unfold Th.check; rw [h]; rfl
theorem chk0 {i : Th.Ins} (h : Th.fits i = true) (g : Th.branch i.op = false ∨ Th.reaches i.op i.imm i.wide = true) : Th.check i = 0 := by
  unfold Th.check; rw [h]; rcases g with g | g <;> simp [g]
theorem chk6 {i : Th.Ins} (h : Th.fits i = true) (g : Th.branch i.op = true) (g2 : Th.reaches i.op i.imm i.wide = false) : Th.check i = 6 := by
  unfold Th.check; rw [h]; simp [g, g2]
theorem rcheck_any (op rd rn rm ra imm cond : Int) (wide : Bool) (w : World) :
    Calls Try.prog 27 #[.agg #[.int .i64 op, .int .i64 rd, .int .i64 rn, .int .i64 rm, .int .i64 ra, .int .i64 imm, .int .i64 cond, .bool wide]] w fun e w' => e = .returned (.int .i64 (Th.check ⟨op, rd, rn, rm, ra, imm, cond, wide⟩)) ∧ Below w.heap.size w w' := by
  rcases Th.fits_chain ⟨op, rd, rn, rm, ra, imm, cond, wide⟩ with ⟨he, hf⟩ | ⟨hne, hz, hf⟩
  · rw [chk2 hf]
    simp only at he
    by_cases h18 : op = 18
    · subst h18; exact rc_18f0 _ _ _ _ _ _ _ w (by rw [he]; decide) he
    · exact rc_n0 _ _ _ _ _ _ _ _ w (by rw [he]; decide) (by simpa using h18) he
  simp only at hne hz
  have hem : (Th.rbits op wide).toList.isEmpty = false := by
    cases e : (Th.rbits op wide).toList with
    | nil => exact absurd e hne
    | cons a l => rfl
  by_cases h18 : op = 18
  · subst h18
    cases t0 : Th.rnumber 18 imm
    · rw [chk2 (by rw [hf]; simp [Th.rchain, t0])]
      exact rc_18f1 _ _ _ _ _ _ _ w hz hem hne t0
    cases t1 : Th.rreg (Th.rbits 18 wide) 100 rd
    · rw [chk2 (by rw [hf]; simp [Th.rchain, t1])]
      exact rc_18f2 _ _ _ _ _ _ _ w hz hem hne t0 t1
    cases t2 : Th.rreg (Th.rbits 18 wide) 110 rn
    · rw [chk2 (by rw [hf]; simp [Th.rchain, t2])]
      exact rc_18f3 _ _ _ _ _ _ _ w hz hem hne t0 t1 t2
    cases t3 : Th.rreg (Th.rbits 18 wide) 109 rm
    · rw [chk2 (by rw [hf]; simp [Th.rchain, t3])]
      exact rc_18f4 _ _ _ _ _ _ _ w hz hem hne t0 t1 t2 t3
    cases t4 : Th.rreg (Th.rbits 18 wide) 97 0
    · rw [chk2 (by rw [hf]; simp [Th.rchain, t4])]
      exact rc_18f5 _ _ _ _ _ _ _ w hz hem hne t0 t1 t2 t3 t4
    have hi : 0 ≤ imm ∧ imm ≤ 31 := by simpa [Th.rnumber] using t0
    by_cases l : 1 ≤ ra
    case neg => rw [chk2 (by rw [hf]; simp [Th.rextra, l])]; exact rc_18l _ _ _ _ _ _ _ w hz hem hne t0 t1 t2 t3 t4 (by omega)
    by_cases g : ra ≤ 32 - imm
    case neg => rw [chk2 (by rw [hf]; simp [Th.rextra, g])]; exact rc_18g _ _ _ _ _ _ _ w hz hem hne t0 t1 t2 t3 t4 l hi.1 hi.2 (by omega)
    by_cases c : cond = 0
    case neg => rw [chk2 (by rw [hf]; simp [Th.rextra, c])]; exact rc_18c _ _ _ _ _ _ _ w hz hem hne t0 t1 t2 t3 t4 l hi.1 hi.2 g (by simpa using c)
    rw [chk0 (by rw [hf]; simp [Th.rchain, Th.rextra, t0, t1, t2, t3, t4, l, g, c]) (.inl rfl)]
    exact rc_18o _ _ _ _ _ _ _ w hz hem hne t0 t1 t2 t3 t4 l hi.1 hi.2 g (by simpa using c)
  have o18 : (op == 18) = false := by simpa using h18
  cases t0 : Th.rnumber op imm
  · rw [chk2 (by rw [hf]; simp [Th.rchain, o18, t0])]
    exact rc_n1 _ _ _ _ _ _ _ _ w hz o18 hem hne t0
  cases t1 : Th.rreg (Th.rbits op wide) 100 rd
  · rw [chk2 (by rw [hf]; simp [Th.rchain, o18, t1])]
    exact rc_n2 _ _ _ _ _ _ _ _ w hz o18 hem hne t0 t1
  cases t2 : Th.rreg (Th.rbits op wide) 110 rn
  · rw [chk2 (by rw [hf]; simp [Th.rchain, o18, t2])]
    exact rc_n3 _ _ _ _ _ _ _ _ w hz o18 hem hne t0 t1 t2
  cases t3 : Th.rreg (Th.rbits op wide) 109 rm
  · rw [chk2 (by rw [hf]; simp [Th.rchain, o18, t3])]
    exact rc_n4 _ _ _ _ _ _ _ _ w hz o18 hem hne t0 t1 t2 t3
  cases t4 : Th.rreg (Th.rbits op wide) 97 ra
  · rw [chk2 (by rw [hf]; simp [Th.rchain, o18, t4])]
    exact rc_n5 _ _ _ _ _ _ _ _ w hz o18 hem hne t0 t1 t2 t3 t4
  have hch : Th.rchain ⟨op, rd, rn, rm, ra, imm, cond, wide⟩ = true := by simp [Th.rchain, o18, t0, t1, t2, t3, t4]
  by_cases h17 : op = 17
  · subst h17
    by_cases q : ra = rd
    · rw [chk2 (by rw [hf]; simp [Th.rextra, q])]; exact rc_17q _ _ _ _ _ _ _ w hz hem hne t0 t1 t2 t3 t4 (by simpa using q)
    by_cases c : cond = 0
    case neg => rw [chk2 (by rw [hf]; simp [Th.rextra, c])]; exact rc_17c _ _ _ _ _ _ _ w hz hem hne t0 t1 t2 t3 t4 (by simpa using q) (by simpa using c)
    rw [chk0 (by rw [hf, hch]; simp [Th.rextra, q, c]) (.inl rfl)]
    exact rc_17o _ _ _ _ _ _ _ w hz hem hne t0 t1 t2 t3 t4 (by simpa using q) (by simpa using c)
  by_cases h25 : op = 25
  · subst h25
    by_cases l : 0 ≤ cond
    case neg => rw [chk2 (by rw [hf]; simp [Th.rextra, l])]; exact rc_25l _ _ _ _ _ _ _ w hz hem hne t0 t1 t2 t3 t4 (by omega)
    by_cases g : cond ≤ 13
    case neg => rw [chk2 (by rw [hf]; simp [Th.rextra, g])]; exact rc_25g _ _ _ _ _ _ _ w hz hem hne t0 t1 t2 t3 t4 l (by omega)
    by_cases m : imm % 2 = 0
    case neg =>
      rw [chk6 (by rw [hf, hch]; simp [Th.rextra, l, g]) rfl (by simp [Th.reaches, m])]
      exact rc_25r1 _ _ _ _ _ _ _ w hz hem hne t0 t1 t2 t3 t4 l g (by rw [tmod_ne]; simpa using m)
    have m' : (imm.tmod 2 != 0) = false := by rw [tmod_ne]; simpa using m
    by_cases u : Th.reachLo 25 wide ≤ imm
    case neg =>
      rw [chk6 (by rw [hf, hch]; simp [Th.rextra, l, g]) rfl (by simp [Th.reaches, u])]
      exact rc_25r2 _ _ _ _ _ _ _ w hz hem hne t0 t1 t2 t3 t4 l g m' (by omega)
    by_cases v : imm ≤ Th.reachHi 25 wide
    case neg =>
      rw [chk6 (by rw [hf, hch]; simp [Th.rextra, l, g]) rfl (by simp [Th.reaches, v])]
      exact rc_25r3 _ _ _ _ _ _ _ w hz hem hne t0 t1 t2 t3 t4 l g m' u (by omega)
    rw [chk0 (by rw [hf, hch]; simp [Th.rextra, l, g]) (.inr (by simp [Th.reaches, m, u, v]))]
    exact rc_25o _ _ _ _ _ _ _ w hz hem hne t0 t1 t2 t3 t4 l g m' u v
  by_cases h24 : op = 24
  · subst h24
    by_cases c : cond = 0
    case neg => rw [chk2 (by rw [hf]; simp [Th.rextra, c])]; exact rc_24c _ _ _ _ _ _ _ w hz hem hne t0 t1 t2 t3 t4 (by simpa using c)
    by_cases m : imm % 2 = 0
    case neg =>
      rw [chk6 (by rw [hf, hch]; simp [Th.rextra, c]) rfl (by simp [Th.reaches, m])]
      exact rc_24r1 _ _ _ _ _ _ _ w hz hem hne t0 t1 t2 t3 t4 (by simpa using c) (by rw [tmod_ne]; simpa using m)
    have m' : (imm.tmod 2 != 0) = false := by rw [tmod_ne]; simpa using m
    by_cases u : Th.reachLo 24 wide ≤ imm
    case neg =>
      rw [chk6 (by rw [hf, hch]; simp [Th.rextra, c]) rfl (by simp [Th.reaches, u])]
      exact rc_24r2 _ _ _ _ _ _ _ w hz hem hne t0 t1 t2 t3 t4 (by simpa using c) m' (by omega)
    by_cases v : imm ≤ Th.reachHi 24 wide
    case neg =>
      rw [chk6 (by rw [hf, hch]; simp [Th.rextra, c]) rfl (by simp [Th.reaches, v])]
      exact rc_24r3 _ _ _ _ _ _ _ w hz hem hne t0 t1 t2 t3 t4 (by simpa using c) m' u (by omega)
    rw [chk0 (by rw [hf, hch]; simp [Th.rextra, c]) (.inr (by simp [Th.reaches, m, u, v]))]
    exact rc_24o _ _ _ _ _ _ _ w hz hem hne t0 t1 t2 t3 t4 (by simpa using c) m' u v
  have o17 : (op == 17) = false := by simpa using h17
  have o24 : (op == 24) = false := by simpa using h24
  have o25 : (op == 25) = false := by simpa using h25
  have o25b : (op != 25) = true := by simpa using h25
  by_cases c : cond = 0
  case neg => rw [chk2 (by rw [hf]; simp [Th.rextra, o18, o17, o25, c])]; exact rc_ec _ _ _ _ _ _ _ _ w hz o17 o18 o24 o25 o25b hem hne t0 t1 t2 t3 t4 (by simpa using c)
  rw [chk0 (by rw [hf, hch]; simp [Th.rextra, o18, o17, o25, c]) (.inl (by simp [Th.branch, o24, o25]))]
  exact rc_eo _ _ _ _ _ _ _ _ w hz o17 o18 o24 o25 o25b hem hne t0 t1 t2 t3 t4 (by simpa using c)
theorem rbits_size (i : Th.Ins) (h : Th.check i = 0) : (((Th.rbits i.op i.wide).size : Int) / 8) = Th.size i := by
  obtain ⟨op, rd, rn, rm, ra, imm, cond, wide⟩ := i
  rcases Th.op_cases (Th.op_range h) with rfl | rfl | rfl | rfl | rfl | rfl | rfl | rfl | rfl | rfl | rfl | rfl | rfl | rfl | rfl | rfl | rfl | rfl | rfl | rfl | rfl | rfl | rfl | rfl | rfl
  · have hs := Th.size1 _ _ _ _ _ _ _ h
    rw [Th.ok1] at h
    obtain ⟨_, _, _, _, _, _, rfl⟩ := h
    rw [hs]; exact (show (((Th.rbits 1 false).size : Int) / 8) = 2 from by decide)
  · have hs := Th.size2 _ _ _ _ _ _ _ h
    rw [Th.ok2] at h
    obtain ⟨_, _, _, _, _, _, rfl⟩ := h
    rw [hs]; exact (show (((Th.rbits 2 false).size : Int) / 8) = 2 from by decide)
  · have hs := Th.size3 _ _ _ _ _ _ _ h
    rw [Th.ok3] at h
    obtain ⟨_, _, _, _, _, _, rfl⟩ := h
    rw [hs]; exact (show (((Th.rbits 3 false).size : Int) / 8) = 4 from by decide)
  · have hs := Th.size4 _ _ _ _ _ _ _ h
    rw [Th.ok4] at h
    obtain ⟨_, _, _, _, _, _, rfl⟩ := h
    rw [hs]; exact (show (((Th.rbits 4 false).size : Int) / 8) = 4 from by decide)
  · have hs := Th.size5 _ _ _ _ _ _ _ h
    rw [Th.ok5] at h
    obtain ⟨_, _, _, _, _, _, rfl⟩ := h
    rw [hs]; exact (show (((Th.rbits 5 false).size : Int) / 8) = 4 from by decide)
  · have hs := Th.size6 _ _ _ _ _ _ _ h
    rw [Th.ok6] at h
    obtain ⟨_, _, _, _, _, _, rfl⟩ := h
    rw [hs]; exact (show (((Th.rbits 6 false).size : Int) / 8) = 4 from by decide)
  · have hs := Th.size7 _ _ _ _ _ _ _ h
    rw [Th.ok7] at h
    obtain ⟨_, _, _, _, _, _, rfl⟩ := h
    rw [hs]; exact (show (((Th.rbits 7 false).size : Int) / 8) = 4 from by decide)
  · have hs := Th.size8 _ _ _ _ _ _ _ h
    rw [Th.ok8] at h
    obtain ⟨_, _, _, _, _, _, rfl⟩ := h
    rw [hs]; exact (show (((Th.rbits 8 false).size : Int) / 8) = 4 from by decide)
  · have hs := Th.size9 _ _ _ _ _ _ _ h
    rw [Th.ok9] at h
    obtain ⟨_, _, _, _, _, _, rfl⟩ := h
    rw [hs]; exact (show (((Th.rbits 9 false).size : Int) / 8) = 4 from by decide)
  · have hs := Th.size10 _ _ _ _ _ _ _ h
    rw [Th.ok10] at h
    obtain ⟨_, _, _, _, _, _, rfl⟩ := h
    rw [hs]; exact (show (((Th.rbits 10 false).size : Int) / 8) = 4 from by decide)
  · have hs := Th.size11 _ _ _ _ _ _ _ h
    rw [Th.ok11] at h
    obtain ⟨_, _, _, _, _, _, rfl⟩ := h
    rw [hs]; exact (show (((Th.rbits 11 false).size : Int) / 8) = 4 from by decide)
  · have hs := Th.size12 _ _ _ _ _ _ _ h
    rw [Th.ok12] at h
    obtain ⟨_, _, _, _, _, _, rfl⟩ := h
    rw [hs]; exact (show (((Th.rbits 12 false).size : Int) / 8) = 4 from by decide)
  · have hs := Th.size13 _ _ _ _ _ _ _ h
    rw [Th.ok13] at h
    obtain ⟨_, _, _, _, _, _, rfl⟩ := h
    rw [hs]; exact (show (((Th.rbits 13 false).size : Int) / 8) = 4 from by decide)
  · have hs := Th.size14 _ _ _ _ _ _ _ h
    rw [Th.ok14] at h
    obtain ⟨_, _, _, _, _, _, rfl⟩ := h
    rw [hs]; exact (show (((Th.rbits 14 false).size : Int) / 8) = 4 from by decide)
  · have hs := Th.size15 _ _ _ _ _ _ _ h
    rw [Th.ok15] at h
    obtain ⟨_, _, _, _, _, _, rfl⟩ := h
    rw [hs]; exact (show (((Th.rbits 15 false).size : Int) / 8) = 4 from by decide)
  · have hs := Th.size16 _ _ _ _ _ _ _ h
    rw [Th.ok16] at h
    obtain ⟨_, _, _, _, _, _, rfl⟩ := h
    rw [hs]; exact (show (((Th.rbits 16 false).size : Int) / 8) = 4 from by decide)
  · have hs := Th.size17 _ _ _ _ _ _ _ h
    rw [Th.ok17] at h
    obtain ⟨_, _, _, _, _, _, rfl⟩ := h
    rw [hs]; exact (show (((Th.rbits 17 false).size : Int) / 8) = 4 from by decide)
  · have hs := Th.size18 _ _ _ _ _ _ _ h
    rw [Th.ok18] at h
    obtain ⟨_, _, _, _, _, _, rfl⟩ := h
    rw [hs]; exact (show (((Th.rbits 18 false).size : Int) / 8) = 4 from by decide)
  · have hs := Th.size19 _ _ _ _ _ _ _ h
    rw [Th.ok19] at h
    obtain ⟨_, _, _, _, _, _, rfl⟩ := h
    rw [hs]; exact (show (((Th.rbits 19 false).size : Int) / 8) = 2 from by decide)
  · have hs := Th.size20 _ _ _ _ _ _ _ h
    rw [Th.ok20] at h
    obtain ⟨_, _, _, _, _, _, rfl⟩ := h
    rw [hs]; exact (show (((Th.rbits 20 false).size : Int) / 8) = 2 from by decide)
  · have hs := Th.size21 _ _ _ _ _ _ _ h
    rw [Th.ok21] at h
    obtain ⟨_, _, _, _, _, _, rfl⟩ := h
    rw [hs]; exact (show (((Th.rbits 21 false).size : Int) / 8) = 2 from by decide)
  · have hs := Th.size22 _ _ _ _ _ _ _ h
    rw [Th.ok22] at h
    obtain ⟨_, _, _, _, _, _, rfl⟩ := h
    rw [hs]; exact (show (((Th.rbits 22 false).size : Int) / 8) = 2 from by decide)
  · have hs := Th.size23 _ _ _ _ _ _ _ h
    rw [Th.ok23] at h
    obtain ⟨_, _, _, _, _, _, rfl⟩ := h
    rw [hs]; exact (show (((Th.rbits 23 false).size : Int) / 8) = 2 from by decide)
  · cases wide
    · rw [Th.size24n _ _ _ _ _ _ h]; exact (show (((Th.rbits 24 false).size : Int) / 8) = 2 from by decide)
    · rw [Th.size24w _ _ _ _ _ _ h]; exact (show (((Th.rbits 24 true).size : Int) / 8) = 4 from by decide)
  · cases wide
    · rw [Th.size25n _ _ _ _ _ _ h]; exact (show (((Th.rbits 25 false).size : Int) / 8) = 2 from by decide)
    · rw [Th.size25w _ _ _ _ _ _ h]; exact (show (((Th.rbits 25 true).size : Int) / 8) = 4 from by decide)
set_option maxHeartbeats 1000000 in
theorem rsize_any (op rd rn rm ra imm cond : Int) (wide : Bool) (w : World) :
    Calls Try.prog 29 #[.agg #[.int .i64 op, .int .i64 rd, .int .i64 rn, .int .i64 rm, .int .i64 ra, .int .i64 imm, .int .i64 cond, .bool wide]] w fun e w' => e = .returned (.int .i64 (Th.size ⟨op, rd, rn, rm, ra, imm, cond, wide⟩)) ∧ Below w.heap.size w w' := by
  by_cases h0 : Th.check ⟨op, rd, rn, rm, ra, imm, cond, wide⟩ = 0
  · have h1 : (Th.check ⟨op, rd, rn, rm, ra, imm, cond, wide⟩ != 0) = false := by simp [h0]
    have hs := Lib.hid (rbits_size _ h0)
    have h64 : (Th.rbits op wide).size ≤ 64 := by
      rcases Th.fits_chain ⟨op, rd, rn, rm, ra, imm, cond, wide⟩ with ⟨he, _⟩ | ⟨_, hz, _⟩
      · simp only at he; rw [he]; decide
      · exact hz
    clear h0
    go_enter Try.func29, Try.ntmps29
    go_wp2_with (first | (go_at_call 27; refine (rcheck_any _ _ _ _ _ _ _ _ _).mono ?_; rintro e w' ⟨rfl, hb⟩; obtain ⟨hc, hf⟩ := bcell hb) | (go_at_call 52; refine (rbits_any _ _ _).mono ?_; rintro e w' ⟨rfl, rfl⟩))
    go_ret
    exact ⟨ret_int hs.out, ((Below.refl _ _).alloc (Nat.le_refl _) _).trans (hb.mono (by simp))⟩
  · have h1 : (Th.check ⟨op, rd, rn, rm, ra, imm, cond, wide⟩ != 0) = true := by simp [h0]
    have H0 := Lib.hid h0
    clear h0
    go_enter Try.func29, Try.ntmps29
    go_wp2_with (go_at_call 27; refine (rcheck_any _ _ _ _ _ _ _ _ _).mono ?_; rintro e w' ⟨rfl, hb⟩)
    go_ret
    exact ⟨ret_int (by simp [Th.size, H0.out]), ((Below.refl _ _).alloc (Nat.le_refl _) _).trans (hb.mono (by simp))⟩
end Go.Proofs.Ytennhpfhgbmnfaa
