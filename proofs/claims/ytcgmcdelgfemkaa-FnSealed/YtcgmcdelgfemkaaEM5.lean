import Derived.Test.YtcgmcdelgfemkaaEM4
import Derived.Lib.QuietBelow
import Derived.BigQuiet
namespace Go.Proofs.Ytcgmcdelgfemkaa
open Go.RowKit Go.Sort

open Classical in
/-- What Unlock answers. -/
noncomputable def unlR (ss : List Int) (rd : Int) (bs : List Int) (tg : Int) (s : ByteArray) : List Int × Int :=
  if lkP bs.length s.size ss.length rd then (if tg = tagN (pkN s ss rd.toNat) bs then (maskL (pkN s ss rd.toNat) bs, 0) else ([], 2)) else ([], 1)
theorem unlR_len (ss : List Int) (rd : Int) (bs : List Int) (tg : Int) (s : ByteArray) : (unlR ss rd bs tg s).1.length ≤ 4000 := by
  unfold unlR
  split
  · rename_i h
    split
    · show (maskL _ bs).length ≤ 4000
      rw [maskL_len]; exact h.1
    · simp
  · simp
def UlA (t : List Int × Int) (w : World) (e : Ending) (w' : World) : Prop :=
  ∃ a n c, e = .returned (.tuple #[.slice a n c, .int .i64 t.2]) ∧ Own w.heap.size w' a n c t.1 ∧ Below w.heap.size w w'

set_option maxRecDepth 10000 in
set_option maxHeartbeats 2000000 in
theorem implUnlock_any (sa : Option Addr) (sn sc : Nat) (rd : Int) (ba : Option Addr) (bn bc : Nat) (tg : Int) (ss bs : List Int) (s : ByteArray) (w : World) (h1 : Row w sa sn ss) (h2 : Row w ba bn bs) (hc1 : sa = none → sc = 0) (hc2 : ba = none → bc = 0) :
    Calls Try.prog 10 #[stv sa sn sc rd ba bn bc tg, .string s] w (UlA (unlR ss rd bs tg s) w) := by
  have L1 : Hid (ss.length = sn) := h1.len
  have L2 : Hid (bs.length = bn) := h2.len
  obtain ⟨wb, hwb⟩ : ∃ wb, wb = w.alloc (.cells #[.slice sa sn sc, .int .i64 rd, .slice ba bn bc, .int .u64 tg] 28) := ⟨_, rfl⟩
  have B0 : Below w.heap.size w wb := by rw [hwb]; exact (Below.refl _ _).alloc (Nat.le_refl _) _
  have HX : Hid (Blk4 wb w.heap.size (.slice sa sn sc) (.int .i64 rd) (.slice ba bn bc) (.int .u64 tg)) := by rw [hwb]; exact heap_alloc_new w _
  have HW : Hid (_ = _) := hwb
  have H1 : Hid (Row w sa sn ss) := h1
  have H2 : Hid (Row w ba bn bs) := h2
  clear hwb h1 h2
  obtain ⟨⟨x0, x1, x2, x3⟩, _⟩ := HX.out.cells
  rw [stv]
  by_cases hp : lkP bn s.size sn rd
  · have HP : Hid (lkP bn s.size sn rd) := hp
    obtain ⟨rn, rfl⟩ : ∃ rn : Nat, rd = (rn : Int) := ⟨rd.toNat, by have := hp.2.2.2; omega⟩
    have hn : bn ≤ 4000 := hp.1
    have hs : s.size ≤ 100 := hp.2.1
    have hm : sn ≤ 16 := hp.2.2.1
    have hrn : rn ≤ 1000 := by have := hp.2.2.2; omega
    clear hp
    obtain ⟨k, hk⟩ : ∃ k, k = pkN s ss rn := ⟨_, rfl⟩
    have hkb : U64 k := by rw [hk]; exact pkN_bd _ _ _
    have HK : Hid (k = pkN s ss rn) := hk
    clear hk
    go_enter Try.func10, Try.ntmps10
    go_upto_region 1 with fail
    rw [← HW.out]
    clear HW
    go_wp2_with fail
    refine (lockOk_t ba bn bc s sa sn sc (rn : Int) _ HP.out).mono ?_
    rintro e w1 ⟨rfl, hw⟩
    have hw2 := hw.symm
    subst hw2
    go_wp2_with fail
    refine (lockKey_any s sa sn sc ss rn _ (H1.out.kept B0) hs hm hc1 hrn).mono ?_
    rintro e w2 ⟨rfl, hb2⟩
    rw [← HK.out]
    have B2 := keepT B0 hb2
    have HX2 : Hid (Blk4 w2 w.heap.size (.slice sa sn sc) (.int .i64 rn) (.slice ba bn bc) (.int .u64 tg)) := HX.out.kept hb2
    have HR2 : Hid (Row w2 ba bn bs) := H2.out.kept B2
    clear x0 x1 x2 x3
    obtain ⟨⟨x0, x1, x2, x3⟩, _⟩ := HX2.out.cells
    have q2 := cell_regrown x2
    have q3 := cell_regrown x3
    have ca : Hid (∀ d os, Calls Try.prog 28 #[.int .u64 k, .slice ba bn bc] (grow (redrawn w2 d) os) fun e w'' => e = .returned (.int .u64 (tagN k bs)) ∧ ∃ p : Regrown, w'' = grow (redrawn w2 p.d) p.os) := fun d os => Calls.regrown_of (sealTag_any k ba bn bc bs _ hkb (HR2.out.kept (below_regrown w2 d os)) (by omega) hc2)
    obtain ⟨v, hv⟩ : ∃ v, v = tagN k bs := ⟨_, rfl⟩
    have HVT : Hid (v = tagN k bs) := hv
    rw [← hv] at ca
    clear hv
    by_cases ht : tg = v
    · subst ht
      have HV : Hid (unlR ss rn bs tg s = (maskL k bs, 0)) := by
        show _ = _
        unfold unlR
        rw [if_pos (by rw [L1.out, L2.out]; exact HP.out), Int.toNat_natCast, ← HK.out, if_pos HVT.out]
      have zt : (tg != tg) = false := by simp
      go_wp2_with fail
      refine wp_region_quiet_below (by kernel_rfl) (by kernel_rfl) ?_
      iterate 5 (go_big_quiet_step (fail))
      go_big_quiet_step (exact ca.out _ _)
      go_big_quiet_step (fail)
      refine wpQuiet_nil ?_
      intro _ hw'
      obtain ⟨⟨dq, osq⟩, hw''⟩ := hw'
      subst hw''
      have b3 := below_regrown w2 dq osq
      have B3 := keepT B2 b3
      have x2' := q2 dq osq
      have HR3 : Hid (Row (grow (redrawn w2 dq) osq) ba bn bs) := HR2.out.kept b3
      go_wp2_with fail
      refine (masked_any k ba bn bc bs _ hkb HR3.out (by omega) hc2).mono ?_
      rintro e w4 ⟨a4, c4, rfl, ho4, hb4⟩
      go_wp2
      go_ret2
      exact ⟨a4, bn, c4, by rw [HV.out]; rfl, by rw [HV.out]; exact ho4.mono B3.size, keepT B3 hb4⟩
    · have HV : Hid (unlR ss rn bs tg s = ([], 2)) := by
        show _ = _
        unfold unlR
        rw [if_pos (by rw [L1.out, L2.out]; exact HP.out), Int.toNat_natCast, ← HK.out, ← HVT.out, if_neg ht]
      have zt : (tg != v) = true := by simpa using ht
      go_wp2_with fail
      refine wp_region_quiet_below (by kernel_rfl) (by kernel_rfl) ?_
      iterate 5 (go_big_quiet_step (fail))
      go_big_quiet_step (exact ca.out _ _)
      go_big_quiet_step (fail)
      refine wpQuiet_nil ?_
      intro _ hw'
      obtain ⟨⟨dq, osq⟩, hw''⟩ := hw'
      subst hw''
      have B3 := keepT B2 (below_regrown w2 dq osq)
      go_wp2
      go_ret2
      exact ⟨none, 0, 0, by rw [HV.out]; rfl, by rw [HV.out]; exact own_nilE _ _, B3⟩
  · have HP : Hid (¬ lkP bn s.size sn rd) := hp
    have HV : Hid (unlR ss rd bs tg s = ([], 1)) := by show _ = _; unfold unlR; rw [if_neg (by rw [L1.out, L2.out]; exact HP.out)]
    clear hp
    go_enter Try.func10, Try.ntmps10
    go_upto_region 1 with fail
    rw [← HW.out]
    clear HW
    go_wp2_with fail
    refine (lockOk_f ba bn bc s sa sn sc rd _ HP.out).mono ?_
    rintro e w1 ⟨rfl, hw⟩
    have hw2 := hw.symm
    subst hw2
    go_wp2
    go_ret2
    exact ⟨none, 0, 0, by rw [HV.out]; rfl, by rw [HV.out]; exact own_nilE _ _, B0⟩

end Go.Proofs.Ytcgmcdelgfemkaa
