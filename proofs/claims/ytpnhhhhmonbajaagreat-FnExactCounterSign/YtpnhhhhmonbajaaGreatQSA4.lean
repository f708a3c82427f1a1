import Derived.Test.YtpnhhhhmonbajaaGreatQSA3
namespace Go.Proofs.YtpnhhhhmonbajaaGreat
open Go.RowKit

abbrev Sc4 := Int × Int × Int × Int
def scw (t : Sc4) : Value := .agg #[.int .i64 t.1, .int .u64 t.2.1, .int .i64 t.2.2.1, .int .i64 t.2.2.2]
def saV (sc x h n : Int) (ms : List Int) : List Int × Sc4 × Int :=
  if secOk sc x h n then (if sc = 1 then (sgG x ms, (sc, x, h, n), 0) else ((saT x h n ms).1, (sc, x, h, (saT x h n ms).2.1), (saT x h n ms).2.2)) else ([], (0, 0, 0, 0), 1)

set_option maxRecDepth 10000 in
set_option maxHeartbeats 4000000 in
theorem implSignAny_any (sc x h n : Int) (am : Option Addr) (nn c : Nat) (ms : List Int) (w : World) (hx : U64 x) (hr : Row w am nn ms) (hn : nn ≤ 1048576) (hc : am = none → c = 0) :
    Calls Tryz.prog 63 #[scv sc x h n, .slice am nn c] w fun e w' => ∃ a cap, e = .returned (.tuple #[.slice a (saV sc x h n ms).1.length cap, scw (saV sc x h n ms).2.1, .int .i64 (saV sc x h n ms).2.2]) ∧ Own w.heap.size w' a (saV sc x h n ms).1.length cap (saV sc x h n ms).1 ∧ Below w.heap.size w w' := by
  obtain ⟨w1, hw1⟩ : ∃ w1, w1 = (w.alloc (.cells #[.int .i64 sc, .int .u64 x, .int .i64 h, .int .i64 n] 33)).alloc (.cells #[.int .i64 0, .int .u64 0, .int .i64 0, .int .i64 0] 33) := ⟨_, rfl⟩
  have hbb : Below w.heap.size w w1 := by rw [hw1]; exact two_below _ _ _
  have HB1 : Hid (Bx2 w.heap.size sc x h n w1) := by
    show Bx2 _ _ _ _ _ _
    rw [hw1]
    exact ⟨(two_blocks w _ _).1, (two_blocks w _ _).2⟩
  have HW : Hid (_ = _) := hw1
  have HR1 : Hid (Row w1 am nn ms) := hr.kept hbb
  clear hw1 hr
  obtain ⟨T, hT⟩ : ∃ T, T = saV sc x h n ms := ⟨_, rfl⟩
  have HT0 : Hid (_ = _) := hT
  rw [← hT, scv]
  clear hT
  go_enter Tryz.func63, Tryz.ntmps63
  go_wp2_with fail
  rw [← HW.out]
  clear HW
  refine (secretScheme_any sc x h n _ hx).mono ?_
  rintro e w2 ⟨rfl, hb2⟩
  have HX2 : Hid (_) := HB1.out.kept hb2
  have hB2 := keepT hbb hb2
  by_cases hk : secOk sc x h n
  · rw [decide_eq_true hk]
    by_cases h1 : sc = 1
    · have hg : grpP x h n := hk.elim (fun a => a.2) (fun a => absurd a.1 (by omega))
      have HT : Hid (T = (sgG x ms, (sc, x, h, n), 0)) := by show _ = _; rw [HT0.out]; unfold saV; rw [if_pos hk, if_pos h1]
      have HI : Hid (ifv sc = .iface 141 (.agg #[])) := by show _ = _; rw [h1]; rfl
      rw [HI.out]
      clear h1
      obtain ⟨s0, s1, s2, s3⟩ := cells4 HX2.out.s
      go_wp2_with fail
      refine (groupSign_any sc x h n am nn c ms _ hg.1 (HR1.out.kept hb2) hn hc).mono ?_
      rintro e w3 ⟨a3, c3, rfl, ho3, hb3⟩
      have hx3 := HX2.out.kept hb3
      obtain ⟨r0, r1, r2, r3⟩ := cells4 hx3.r
      obtain ⟨f0, f1, f2, f3⟩ := frozen4 hx3.r
      have HB3 : Hid (_ = _) := hx3.r
      have HO3 : Hid (_) := ho3
      have hB3 := keepT hB2 hb3
      have hlt : w.heap.size + 1 < w2.heap.size := (Array.getElem?_eq_some_iff.1 HX2.out.r).1
      clear s0 s1 s2 s3 hx3 ho3
      rw [scv]
      go_wp2
      try simp only [Exit.inBlock, Exit.then]
      exact bodyPost_ret (results_sa rfl _ (w.heap.size + 1) rfl _ rfl _ rfl _ _ _ _ _ (heap_set4 HB3.out _ _ _ _)) rfl ⟨a3, c3, by rw [HT.out]; rfl, by rw [HT.out]; exact (HO3.out.set4 hlt _ _ _ _).mono hB2.size, below_set4 hB3 _ (by omega) _ _ _ _⟩
    · obtain ⟨h2, hkk⟩ : sc = 2 ∧ kP h n := hk.elim (fun a => absurd a.1 h1) (fun a => a)
      have HT : Hid (T = ((saT x h n ms).1, (sc, x, h, (saT x h n ms).2.1), (saT x h n ms).2.2)) := by show _ = _; rw [HT0.out]; unfold saV; rw [if_pos hk, if_neg h1]
      have HI : Hid (ifv sc = .iface 142 (.agg #[])) := by show _ = _; rw [h2]; rfl
      rw [HI.out]
      clear h1 h2
      obtain ⟨s0, s1, s2, s3⟩ := cells4 HX2.out.s
      go_wp2_with fail
      refine (treeSign_any sc x h n am nn c ms _ hx hkk (HR1.out.kept hb2) hn).mono ?_
      rintro e w3 ⟨a3, c3, rfl, ho3, hb3⟩
      obtain ⟨U, hU⟩ : ∃ U, U = saT x h n ms := ⟨_, rfl⟩
      rw [← hU] at HT ho3 ⊢
      clear hU
      have hx3 := HX2.out.kept hb3
      obtain ⟨r0, r1, r2, r3⟩ := cells4 hx3.r
      obtain ⟨f0, f1, f2, f3⟩ := frozen4 hx3.r
      have HB3 : Hid (_ = _) := hx3.r
      have HO3 : Hid (_) := ho3
      have hB3 := keepT hB2 hb3
      have hlt : w.heap.size + 1 < w2.heap.size := (Array.getElem?_eq_some_iff.1 HX2.out.r).1
      clear s0 s1 s2 s3 hx3 ho3
      rw [scv]
      go_wp2
      try simp only [Exit.inBlock, Exit.then]
      exact bodyPost_ret (results_sa rfl _ (w.heap.size + 1) rfl _ rfl _ rfl _ _ _ _ _ (heap_set4 HB3.out _ _ _ _)) rfl ⟨a3, c3, by rw [HT.out]; rfl, by rw [HT.out]; exact (HO3.out.set4 hlt _ _ _ _).mono hB2.size, below_set4 hB3 _ (by omega) _ _ _ _⟩
  · have HT : Hid (T = ([], (0, 0, 0, 0), 1)) := by show _ = _; rw [HT0.out]; unfold saV; rw [if_neg hk]
    rw [decide_eq_false hk]
    obtain ⟨iv, hiv⟩ : ∃ iv, iv = ifv sc := ⟨_, rfl⟩
    rw [← hiv]
    clear hiv
    obtain ⟨r0, r1, r2, r3⟩ := cells4 HX2.out.r
    obtain ⟨f0, f1, f2, f3⟩ := frozen4 HX2.out.r
    go_wp2
    try simp only [Exit.inBlock, Exit.then]
    exact bodyPost_ret (results_sa rfl _ (w.heap.size + 1) rfl _ rfl _ rfl _ _ _ _ _ (heap_set4 HX2.out.r _ _ _ _)) rfl ⟨none, 0, by rw [HT.out]; rfl, by rw [HT.out]; exact own_none _ _, below_set4 hB2 _ (by omega) _ _ _ _⟩

end Go.Proofs.YtpnhhhhmonbajaaGreat

