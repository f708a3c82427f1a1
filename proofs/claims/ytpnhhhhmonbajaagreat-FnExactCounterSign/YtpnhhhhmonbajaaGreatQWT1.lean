import Derived.Test.YtpnhhhhmonbajaaGreatQSA4
import Derived.Test.YtpnhhhhmonbajaaGreatMTG
import Derived.Test.YtpnhhhhmonbajaaGreatMTK
import Derived.Test.YtpnhhhhmonbajaaGreatMRJ
import Derived.Deep.DeepCutAuto
namespace Go.Proofs.YtpnhhhhmonbajaaGreat
open Go.RowKit

/-- What signAs answers. -/
structure AsV where
  k : Int
  sg : List Int
  t : Sc4
  cd : Int
def asV (sc x h n : Int) (ms : List Int) : AsV :=
  if (saV sc x h n ms).2.2 = 0 then ⟨kidN (pubR sc x h n).1.1 (pubR sc x h n).1.2.1 (pubR sc x h n).1.2.2, (saV sc x h n ms).1, (saV sc x h n ms).2.1, 0⟩ else ⟨0, [], (0, 0, 0, 0), 10 + (saV sc x h n ms).2.2⟩
theorem saV_cd (sc x h n : Int) (ms : List Int) : 0 ≤ (saV sc x h n ms).2.2 ∧ (saV sc x h n ms).2.2 ≤ 2 := by
  have k0 : (0 : Int) ≤ 0 ∧ (0 : Int) ≤ 2 := by omega
  have k1 : (0 : Int) ≤ 1 ∧ (1 : Int) ≤ 2 := by omega
  have k2 : (0 : Int) ≤ 2 ∧ (2 : Int) ≤ 2 := by omega
  unfold saV
  split
  · split
    · exact k0
    · unfold saT
      split
      · exact k2
      · exact k0
  · exact k1
theorem rootN_bdW (seed h : Int) : U64 (rootN seed h) := lev_bd _ (leavesN_bd _ _) _ _
theorem pubR_bdW (sc x h n : Int) : U64 (pubR sc x h n).1.2.1 ∧ (pubR sc x h n).1.1 ≤ 9223372036854775807 ∧ (pubR sc x h n).1.2.2 ≤ 9223372036854775807 := by
  have k0 : (0 : Int) ≤ 9223372036854775807 := by omega
  have k1 : (1 : Int) ≤ 9223372036854775807 := by omega
  have k2 : (2 : Int) ≤ 9223372036854775807 := by omega
  unfold pubR
  split
  · rename_i hs
    by_cases e : sc = 1
    · rw [if_pos e]
      have := keyOf_bd x
      exact ⟨⟨this.1, by show keyOf x ≤ _; omega⟩, k1, k0⟩
    · rw [if_neg e]
      refine ⟨rootN_bdW x h, k2, ?_⟩
      rcases hs with h1 | h1
      · exact absurd h1.1 e
      · have := h1.2.1.2
        show h ≤ _
        omega
  · exact ⟨⟨show (0 : Int) ≤ 0 by omega, show (0 : Int) ≤ 18446744073709551615 by omega⟩, k0, k0⟩
theorem results_as {fn : Func} {u v t z : Tmp} (h : fn.results = #[.tmp u, .tmp v, .cell t 33, .tmp z]) (tmps : Array Value) (g : Nat) (ht : tmps.getD t undef = .pointer (some ⟨g, 0, none⟩)) (x y q : Value) (hu : tmps.getD u undef = x) (hv : tmps.getD v undef = y) (hz : tmps.getD z undef = q) (w : World) (cs : Array Value)
    (hb : w.heap[g]? = some (.cells cs 33 (0, 0))) (hs : cs.size = 4) : (results fn tmps).run Tryz.prog w = .ok (.tuple #[x, y, .agg cs, q]) w := by
  have hi : (Tryz.prog.info? 33).map (·.size) = some cs.size := by rw [hs]; kernel_rfl
  have ht' : tmps[t]?.getD undef = .pointer (some ⟨g, 0, none⟩) := by rw [← ht]; simp
  have hu' : tmps[u]?.getD undef = x := by rw [← hu]; simp
  have hv' : tmps[v]?.getD undef = y := by rw [← hv]; simp
  have hz' : tmps[z]?.getD undef = q := by rw [← hz]; simp
  simp [results, h, ht', hu', hv', hz', asAddr, run_loadVar_row w g 33 33 cs (0, 0) _ hb Tryz.underlying33 rfl hi]

/-- What is known of a region (RJ). -/
def asSp (t : Sc4) (p : Int × Int × Int) (kd : Int) (sg : List Int) (ag : Option Addr) (cg gs gp gr : Nat) (B : Nat) : RSpec where
  m := 8
  n := 12
  slots := [30, 31, 32, 33, 4, 5, 100006, 7, 100008, 100009, 100010, 100011]
  kills := [[], [], [], [], [], [], [], [], [], [], [6], []]
  pres := [[], [], [], [], [], [], [], [], [], [], [], []]
  fact := fun k v w => match k with
    | 0 => v = .agg #[.int .i64 p.1, .int .u64 p.2.1, .int .i64 p.2.2]
    | 1 => v = .int .u64 kd
    | 2 => v = .slice ag sg.length cg
    | 3 => v = .agg #[.int .i64 t.1, .int .u64 t.2.1, .int .i64 t.2.2.1, .int .i64 t.2.2.2]
    | 4 => v = .int .u64 kd
    | 5 => v = .slice ag sg.length cg
    | 6 => w.heap[gr]? = some (.cells #[.int .i64 t.1, .int .u64 t.2.1, .int .i64 t.2.2.1, .int .i64 t.2.2.2] 33 (0, 0))
    | 7 => v = .int .i64 0
    | 8 => w.heap[gp]? = some (.cells #[.int .i64 p.1, .int .u64 p.2.1, .int .i64 p.2.2] 68 (0, 0))
    | 9 => w.heap[gs]? = some (.cells #[.int .i64 t.1, .int .u64 t.2.1, .int .i64 t.2.2.1, .int .i64 t.2.2.2] 33 (0, 0)) ∧ gs ≠ gr
    | 10 => w.heap[gr]? = some (.cells #[.int .i64 0, .int .u64 0, .int .i64 0, .int .i64 0] 33 (0, 0))
    | _ => Own B w ag sg.length cg sg
set_option linter.unusedVariables false in
theorem asSp_stb (t : Sc4) (p : Int × Int × Int) (kd : Int) (sg : List Int) (ag : Option Addr) (cg gs gp gr : Nat) (B : Nat) (k : Nat) (hk : k < 12) : StB ((asSp t p kd sg ag cg gs gp gr (B)).fact k) := by
  match k, hk with
  | 0, _ => exact fun _ _ _ h _ => h
  | 1, _ => exact fun _ _ _ h _ => h
  | 2, _ => exact fun _ _ _ h _ => h
  | 3, _ => exact fun _ _ _ h _ => h
  | 4, _ => exact fun _ _ _ h _ => h
  | 5, _ => exact fun _ _ _ h _ => h
  | 6, _ => exact fun _ _ _ q_0 hb => below_kept q_0 hb
  | 7, _ => exact fun _ _ _ h _ => h
  | 8, _ => exact fun _ _ _ q_0 hb => below_kept q_0 hb
  | 9, _ => exact fun _ _ _ ⟨q_0, q_1⟩ hb => ⟨below_kept q_0 hb, q_1⟩
  | 10, _ => exact fun _ _ _ q_0 hb => below_kept q_0 hb
  | 11, _ => exact fun _ _ _ q_0 hb => q_0.kept hb
  | k + 12, hk => omega
set_option linter.unusedVariables false in
theorem asSp_st6 (t : Sc4) (p : Int × Int × Int) (kd : Int) (sg : List Int) (ag : Option Addr) (cg gs gp gr : Nat) (B : Nat) {W W2 : World} {cs : Array Value} {fr : Nat × Nat} (hg : W.heap[gr]? = some (.cells cs 33 fr)) (ht : Touch (gr) (gr + 1) W W2) (k : Nat) (hk : k < 12) (hne : k ≠ 6) (hkill : 6 ∉ (asSp t p kd sg ag cg gs gp gr (B)).kill k) (v : Value) (hfact : (asSp t p kd sg ag cg gs gp gr (B)).fact k v W) : (asSp t p kd sg ag cg gs gp gr (B)).fact k v W2 := by
  match k, hk, hne, hkill, hfact with
  | 0, _, _, _, hq => exact hq
  | 1, _, _, _, hq => exact hq
  | 2, _, _, _, hq => exact hq
  | 3, _, _, _, hq => exact hq
  | 4, _, _, _, hq => exact hq
  | 5, _, _, _, hq => exact hq
  | 6, _, hne, _, _ => exact absurd rfl hne
  | 7, _, _, _, hq => exact hq
  | 8, _, _, _, q_0 => exact box_box q_0 hg (by decide) ht
  | 9, _, _, _, ⟨q_0, q_1⟩ => exact ⟨(ht.block _ (Array.getElem?_eq_some_iff.1 q_0).1 (by omega)).trans q_0, q_1⟩
  | 10, _, _, hkill, _ => exact absurd (List.Mem.head _) hkill
  | 11, _, _, _, q_0 => exact ⟨ownsRow_box q_0.row hg (by decide) ht, q_0.byte⟩
  | k + 12, hk, _, _, _ => omega

set_option maxRecDepth 10000 in
set_option maxHeartbeats 4000000 in
theorem signAs_any (sc x h n : Int) (am : Option Addr) (nn c : Nat) (ms : List Int) (w : World) (hx : U64 x) (hr : Row w am nn ms) (hn : nn ≤ 1048576) (hc : am = none → c = 0) :
    Calls Tryz.prog 44 #[.agg #[.int .i64 sc, .int .u64 x, .int .i64 h, .int .i64 n], .slice am nn c] w fun e w' => ∃ a cap, e = .returned (.tuple #[.int .u64 (asV sc x h n ms).k, .slice a (asV sc x h n ms).sg.length cap, .agg #[.int .i64 (asV sc x h n ms).t.1, .int .u64 (asV sc x h n ms).t.2.1, .int .i64 (asV sc x h n ms).t.2.2.1, .int .i64 (asV sc x h n ms).t.2.2.2], .int .i64 (asV sc x h n ms).cd]) ∧ Own w.heap.size w' a (asV sc x h n ms).sg.length cap (asV sc x h n ms).sg ∧ Below w.heap.size w w' := by
  obtain ⟨V, hV⟩ : ∃ V, V = asV sc x h n ms := ⟨_, rfl⟩
  obtain ⟨sg, hsg⟩ : ∃ sg, sg = (saV sc x h n ms).1 := ⟨_, rfl⟩
  obtain ⟨t, ht⟩ : ∃ t, t = (saV sc x h n ms).2.1 := ⟨_, rfl⟩
  obtain ⟨cd, hcd⟩ : ∃ cd, cd = (saV sc x h n ms).2.2 := ⟨_, rfl⟩
  obtain ⟨p, hp⟩ : ∃ p, p = (pubR sc x h n).1 := ⟨_, rfl⟩
  obtain ⟨pb, hpb⟩ : ∃ pb, pb = (pubR sc x h n).2 := ⟨_, rfl⟩
  obtain ⟨kd, hkd⟩ : ∃ kd, kd = kidN p.1 p.2.1 p.2.2 := ⟨_, rfl⟩
  have HV : Hid (V = if cd = 0 then ⟨kd, sg, t, 0⟩ else ⟨0, [], (0, 0, 0, 0), 10 + cd⟩) := by show _ = _; rw [hV]; unfold asV; rw [hkd, hp, hsg, ht, hcd]
  have hcb := saV_cd sc x h n ms
  have hpd := pubR_bdW sc x h n
  rw [← hcd] at hcb
  rw [← hp] at hpd
  rw [← hV]
  have HSA : Hid (∀ w, Row w am nn ms → Calls Tryz.prog 63 #[.agg #[.int .i64 sc, .int .u64 x, .int .i64 h, .int .i64 n], .slice am nn c] w fun e w' => ∃ a cap, e = .returned (.tuple #[.slice a sg.length cap, .agg #[.int .i64 t.1, .int .u64 t.2.1, .int .i64 t.2.2.1, .int .i64 t.2.2.2], .int .i64 cd]) ∧ Own w.heap.size w' a sg.length cap sg ∧ Below w.heap.size w w') := by
    intro w' h1
    have := implSignAny_any sc x h n am nn c ms w' hx h1 hn hc
    rw [← hsg, ← ht, ← hcd] at this
    exact this
  have HPU : Hid (∀ w, Calls Tryz.prog 64 #[.agg #[.int .i64 sc, .int .u64 x, .int .i64 h, .int .i64 n]] w fun e w' => e = .returned (.tuple #[.agg #[.int .i64 p.1, .int .u64 p.2.1, .int .i64 p.2.2], .bool pb]) ∧ Below w.heap.size w w') := by
    intro w'
    have := implPubOf_any sc x h n w' hx
    rw [← hp, ← hpb] at this
    exact this
  have HKI : Hid (∀ w, Calls Tryz.prog 65 #[.agg #[.int .i64 p.1, .int .u64 p.2.1, .int .i64 p.2.2]] w fun e w' => e = .returned (.int .u64 kd) ∧ Below w.heap.size w w') := by
    intro w'
    have := implKeyId_any p.1 p.2.1 p.2.2 w' hpd.1 hpd.2.1 hpd.2.2
    rw [← hkd] at this
    exact this
  clear hV hsg ht hcd hp hpb hkd hpd
  obtain ⟨w1, hw1⟩ : ∃ w1, w1 = (w.alloc (.cells #[.int .i64 sc, .int .u64 x, .int .i64 h, .int .i64 n] 33)).alloc (.cells #[.int .i64 0, .int .u64 0, .int .i64 0, .int .i64 0] 33) := ⟨_, rfl⟩
  have hbb : Below w.heap.size w w1 := by rw [hw1]; exact two_below w _ _
  have HB1 : Hid (w1.heap[w.heap.size]? = some (.cells #[.int .i64 sc, .int .u64 x, .int .i64 h, .int .i64 n] 33 (0, 0)) ∧ w1.heap[w.heap.size + 1]? = some (.cells #[.int .i64 0, .int .u64 0, .int .i64 0, .int .i64 0] 33 (0, 0))) := by show _ ∧ _; rw [hw1]; exact two_blocks w _ _
  have HR1 : Hid (Row w1 am nn ms) := hr.kept hbb
  have HW : Hid (_ = _) := hw1
  clear hw1 hr
  go_enter Tryz.func44, Tryz.ntmps44
  go_upto_region 1 with fail
  rw [← HW.out]
  clear HW
  obtain ⟨s0, s1, s2, s3⟩ := cells4 HB1.out.1
  go_wp2_with fail
  refine (HSA.out w1 HR1.out).mono ?_
  rintro e w2 ⟨ag, cg, rfl, ho, hb2⟩
  clear s0 s1 s2 s3
  obtain ⟨w3, hw3⟩ : ∃ w3, w3 = w2.alloc (.cells #[.int .i64 t.1, .int .u64 t.2.1, .int .i64 t.2.2.1, .int .i64 t.2.2.2] 33) := ⟨_, rfl⟩
  have hb3 : Below w2.heap.size w2 w3 := by rw [hw3]; exact (Below.refl _ _).alloc (Nat.le_refl _) _
  have hb13 := keepT hb2 hb3
  have HB3 : Hid (w3.heap[w.heap.size]? = some (.cells #[.int .i64 sc, .int .u64 x, .int .i64 h, .int .i64 n] 33 (0, 0)) ∧ w3.heap[w.heap.size + 1]? = some (.cells #[.int .i64 0, .int .u64 0, .int .i64 0, .int .i64 0] 33 (0, 0)) ∧ w3.heap[w2.heap.size]? = some (.cells #[.int .i64 t.1, .int .u64 t.2.1, .int .i64 t.2.2.1, .int .i64 t.2.2.2] 33 (0, 0))) := by
    refine ⟨below_kept HB1.out.1 hb13, below_kept HB1.out.2 hb13, ?_⟩
    rw [hw3]
    exact heap_alloc_new w2 _
  have HO3 : Hid (Own w1.heap.size w3 ag sg.length cg sg) := ho.kept hb3
  have hsz1 : w.heap.size + 2 ≤ w1.heap.size := by have := (Array.getElem?_eq_some_iff.1 HB1.out.2).1; omega
  have hsz2 := hb2.size
  have HBW : Hid (Below w.heap.size w w3) := keepT hbb hb13
  have HW : Hid (_ = _) := hw3
  clear hw3 ho
  go_upto_region 2 with fail
  rw [← HW.out]
  clear HW
  by_cases hc0 : cd = 0
  case neg =>
    have HV := (show Hid (V = ⟨0, [], (0, 0, 0, 0), 10 + cd⟩) by show _ = _; rw [HV.out, if_neg hc0])
    have z1 : (cd != 0) = true := by simp [hc0]
    have z2 : IntKind.i64.wrap (10 + cd) = 10 + cd := by
      have : cd = 1 ∨ cd = 2 := by omega
      rcases this with rfl | rfl <;> decide
    obtain ⟨r0, r1, r2, r3⟩ := cells4 HB3.out.2.1
    obtain ⟨f0, f1, f2, f3⟩ := frozen4 HB3.out.2.1
    clear hc0
    go_wp2
    try simp only [Exit.inBlock, Exit.then]
    have o1 := heap_set4 HB3.out.2.1 (.int .i64 0) (.int .u64 0) (.int .i64 0) (.int .i64 0)
    have o2 := below_set4 HBW.out (w.heap.size + 1) (by omega) (.int .i64 0) (.int .u64 0) (.int .i64 0) (.int .i64 0)
    unfold set4 at o1 o2
    exact bodyPost_ret (results_as rfl _ (w.heap.size + 1) rfl _ _ _ rfl rfl rfl _ _ o1 rfl) rfl ⟨none, 0, by rw [HV.out]; rfl, by rw [HV.out]; exact own_none _ _, o2⟩
  case pos =>
    have HV := (show Hid (V = ⟨kd, sg, t, 0⟩) by show _ = _; rw [HV.out, if_pos hc0])
    subst hc0
    obtain ⟨s0, s1, s2, s3⟩ := cells4 HB3.out.1
    go_wp2_with fail
    refine (HPU.out w3).mono ?_
    rintro e w4 ⟨rfl, hb4⟩
    clear s0 s1 s2 s3
    obtain ⟨w5, hw5⟩ : ∃ w5, w5 = w4.alloc (.cells #[.int .i64 p.1, .int .u64 p.2.1, .int .i64 p.2.2] 68) := ⟨_, rfl⟩
    have hb5 : Below w4.heap.size w4 w5 := by rw [hw5]; exact (Below.refl _ _).alloc (Nat.le_refl _) _
    have hb35 := keepT hb4 hb5
    have HP5 : Hid (w5.heap[w4.heap.size]? = some (.cells #[.int .i64 p.1, .int .u64 p.2.1, .int .i64 p.2.2] 68 (0, 0))) := by show _ = _; rw [hw5]; exact heap_alloc_new w4 _
    have HW : Hid (_ = _) := hw5
    clear hw5
    go_upto_region 5 with fail
    rw [← HW.out]
    clear HW
    have hs4 := hb4.size
    have hs3 := hb3.size
    have hs5 := hb5.size
    have HBB : w.heap.size ≤ w5.heap.size := by omega
    have HBW5 : Hid (Below w.heap.size w w5) := keepT HBW.out hb35
    have HO5 : Hid (Own w1.heap.size w5 ag sg.length cg sg) := HO3.out.kept hb35
    refine wp_region_ri (asSp t p kd sg ag cg w2.heap.size w4.heap.size (w.heap.size + 1) (w.heap.size)) [4, 5, 7, 30, 31, 32, 33] (w.heap.size) (fun a0 => a0.tmps.size = 34 ∧ aT a0 6 = .pointer (some ⟨(w.heap.size + 1), 0, none⟩) ∧ aT a0 8 = .slice ag sg.length cg ∧ aT a0 9 = .pointer (some ⟨w2.heap.size, 0, none⟩) ∧ aT a0 11 = .pointer (some ⟨w4.heap.size, 0, none⟩)) (by kernel_rfl) rfl (by kernel_rfl) rfl ⟨rfl, rfl, rfl, rfl, rfl⟩ (asSp_stb t p kd sg ag cg w2.heap.size w4.heap.size (w.heap.size + 1) (w.heap.size)) ?_ ?_ ?_
    · intro k hk hk2
      match k, hk, hk2 with
      | 8, _, _ => exact HP5.out
      | 9, _, _ => exact ⟨below_kept HB3.out.2.2 hb35, by omega⟩
      | 10, _, _ => exact below_kept HB3.out.2.1 hb35
      | 11, _, _ => exact (show Own w.heap.size w5 ag sg.length cg sg from HO5.out.mono (by omega))
      | 0, hk, _ => exact absurd hk (by show ¬ (8 ≤ 0); omega)
      | 1, hk, _ => exact absurd hk (by show ¬ (8 ≤ 1); omega)
      | 2, hk, _ => exact absurd hk (by show ¬ (8 ≤ 2); omega)
      | 3, hk, _ => exact absurd hk (by show ¬ (8 ≤ 3); omega)
      | 4, hk, _ => exact absurd hk (by show ¬ (8 ≤ 4); omega)
      | 5, hk, _ => exact absurd hk (by show ¬ (8 ≤ 5); omega)
      | 6, hk, _ => exact absurd hk (by show ¬ (8 ≤ 6); omega)
      | 7, hk, _ => exact absurd hk (by show ¬ (8 ≤ 7); omega)
      | k + 12, _, hk2 => exact absurd hk2 (by show ¬ (k + 12 < 12); omega)
    · rintro a0 ⟨hz, g6, g8, g9, g11⟩
      refine StepsRI.cons ?_ (StepsRI.cons ?_ (StepsRI.cons ?_ (StepsRI.cons ?_ (StepsRI.cons ?_ (StepsRI.cons ?_ (StepsRI.cons ?_ (StepsRI.cons ?_ (StepsRI.nil))))))))
      · intro lQ b W hI hUN hED KQ hKQ
        have hg := (hI.vot 8 (of_decide_eq_true rfl) (of_decide_eq_true rfl) rfl)
        refine wp_load_row 68 _ rfl (w4.heap.size) ((hI.fr.same 11 (by decide)).trans g11) 68 #[.int .i64 p.1, .int .u64 p.2.1, .int .i64 p.2.2] (0, 0) _ hg Tryz.underlying68 rfl (by kernel_rfl) ?_
        exact hKQ.out _ _ (hI.put 0 30 rfl rfl (by rw [hz]; decide) rfl hUN rfl HBB (asSp_stb t p kd sg ag cg w2.heap.size w4.heap.size (w.heap.size + 1) (w.heap.size)) (Below.refl _ _) rfl)
      · intro lQ b W hI hUN hED KQ hKQ
        have f0 := hI.got 0 (of_decide_eq_true rfl) (edge hED 0 (by kernel_rfl)) rfl
        replace f0 : aT b 30 = .agg #[.int .i64 p.1, .int .u64 p.2.1, .int .i64 p.2.2] := f0
        refine opw_call 65 #[.tmp 30] _ _ _ rfl Tryz.func65 (by kernel_rfl) rfl #[.agg #[.int .i64 p.1, .int .u64 p.2.1, .int .i64 p.2.2]] (by simp [ev, f0]) ?_
        refine (HKI.out W).mono ?_
        rintro e W2 ⟨rfl, hb⟩
        exact ⟨_, rfl, hKQ.out _ _ (hI.put 1 31 rfl rfl (by rw [hz]; decide) rfl hUN rfl HBB (asSp_stb t p kd sg ag cg w2.heap.size w4.heap.size (w.heap.size + 1) (w.heap.size)) hb rfl)⟩
      · intro lQ b W hI hUN hED KQ hKQ
        exact opw_move 8 rfl (hKQ.out _ _ (hI.put 2 32 rfl rfl (by rw [hz]; decide) rfl hUN rfl HBB (asSp_stb t p kd sg ag cg w2.heap.size w4.heap.size (w.heap.size + 1) (w.heap.size)) (Below.refl _ _) ((hI.fr.same 8 (by decide)).trans g8)))
      · intro lQ b W hI hUN hED KQ hKQ
        have hg := (hI.vot 9 (of_decide_eq_true rfl) (of_decide_eq_true rfl) rfl).1
        refine wp_load_row 33 _ rfl (w2.heap.size) ((hI.fr.same 9 (by decide)).trans g9) 33 #[.int .i64 t.1, .int .u64 t.2.1, .int .i64 t.2.2.1, .int .i64 t.2.2.2] (0, 0) _ hg Tryz.underlying33 rfl (by kernel_rfl) ?_
        exact hKQ.out _ _ (hI.put 3 33 rfl rfl (by rw [hz]; decide) rfl hUN rfl HBB (asSp_stb t p kd sg ag cg w2.heap.size w4.heap.size (w.heap.size + 1) (w.heap.size)) (Below.refl _ _) rfl)
      · intro lQ b W hI hUN hED KQ hKQ
        have f := hI.got 1 (of_decide_eq_true rfl) (edge hED 1 (by kernel_rfl)) rfl
        exact opw_assign 31 rfl (hKQ.out _ _ (hI.put 4 4 rfl rfl (by rw [hz]; decide) rfl hUN rfl HBB (asSp_stb t p kd sg ag cg w2.heap.size w4.heap.size (w.heap.size + 1) (w.heap.size)) (Below.refl _ _) f))
      · intro lQ b W hI hUN hED KQ hKQ
        have f := hI.got 2 (of_decide_eq_true rfl) (edge hED 2 (by kernel_rfl)) rfl
        exact opw_assign 32 rfl (hKQ.out _ _ (hI.put 5 5 rfl rfl (by rw [hz]; decide) rfl hUN rfl HBB (asSp_stb t p kd sg ag cg w2.heap.size w4.heap.size (w.heap.size + 1) (w.heap.size)) (Below.refl _ _) f))
      · intro lQ b W hI hUN hED KQ hKQ
        have hgb := (hI.vot1 10 6 (of_decide_eq_true rfl) (of_decide_eq_true rfl) hUN rfl)
        have fb := ((hI.fr.same 6 (by decide)).trans g6)
        have f := hI.got 3 (of_decide_eq_true rfl) (edge hED 3 (by kernel_rfl)) rfl
        refine wp_store_row 33 _ _ rfl ((w.heap.size + 1)) #[.int .i64 t.1, .int .u64 t.2.1, .int .i64 t.2.2.1, .int .i64 t.2.2.2] fb f 33 _ hgb (by kernel_rfl) rfl (by simp [Value.oneCell']) ?_
        have ht := setRow_touch W ((w.heap.size + 1)) #[.int .i64 t.1, .int .u64 t.2.1, .int .i64 t.2.2.1, .int .i64 t.2.2.2]
        exact hKQ.out _ _ (hI.store 6 (fun j hj => by cases hj) (hI.bel.trans (ht.below (by first | exact HGE6 | omega) (Nat.le_trans HBB hI.bel.size))) (asSp_st6 t p kd sg ag cg w2.heap.size w4.heap.size (w.heap.size + 1) (w.heap.size) hgb ht) (setRow_heap W ((w.heap.size + 1)) _ _ _ _ hgb))
      · intro lQ b W hI hUN hED KQ hKQ
        exact opw_const (.int .i64 0) rfl (hKQ.out _ _ (hI.put 7 7 rfl rfl (by rw [hz]; decide) rfl hUN rfl HBB (asSp_stb t p kd sg ag cg w2.heap.size w4.heap.size (w.heap.size + 1) (w.heap.size)) (Below.refl _ _) rfl))
    · intro b W hf hb F
      have e4 := F 4 (of_decide_eq_true rfl) rfl
      have e5 := F 5 (of_decide_eq_true rfl) rfl
      have e6 := F 6 (of_decide_eq_true rfl) rfl
      have e7 := F 7 (of_decide_eq_true rfl) rfl
      replace e4 : aT b 4 = _ := e4
      replace e5 : aT b 5 = _ := e5
      replace e7 : aT b 7 = _ := e7
      have e6b := hf.same 6 (by decide)
      have hO := F 11 (of_decide_eq_true rfl) rfl
      rw [hf.eq]
      simp only [puts, Act.put, List.setIfInBounds_toArray, List.set_cons_zero, List.set_cons_succ, e4, e5, e7]
      clear hf F
      go_wp2
      try simp only [Exit.inBlock, Exit.then]
      exact bodyPost_ret (results_as rfl _ (w.heap.size + 1) rfl _ _ _ rfl rfl rfl _ _ e6 rfl) rfl ⟨ag, cg, by rw [HV.out]; rfl, by rw [HV.out]; exact hO, HBW5.out.trans hb⟩

end Go.Proofs.YtpnhhhhmonbajaaGreat

