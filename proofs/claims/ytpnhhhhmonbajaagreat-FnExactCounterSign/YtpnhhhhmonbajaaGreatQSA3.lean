import Derived.Test.YtpnhhhhmonbajaaGreatQSA2
import Derived.Test.YtpnhhhhmonbajaaGreatQTS1
namespace Go.Proofs.YtpnhhhhmonbajaaGreat
open Go.RowKit

def flatL (zs : List Int) : List Int := zs.flatMap eightI
theorem flatL_len (zs : List Int) : (flatL zs).length = 8 * zs.length := by
  induction zs with
  | nil => rfl
  | cons z zs ih =>
    have e : flatL (z :: zs) = eightI z ++ flatL zs := by simp [flatL]
    rw [e, List.length_append, eightI_len, ih, List.length_cons]
    omega
theorem flatL_byte (zs : List Int) : ∀ k, 0 ≤ (flatL zs).getD k 0 ∧ (flatL zs).getD k 0 ≤ 255 := by
  induction zs with
  | nil => intro k; simp [flatL]
  | cons z zs ih =>
    have e : flatL (z :: zs) = eightI z ++ flatL zs := by simp [flatL]
    rw [e]
    exact append_byte (eightI_byte z) ih
theorem flatL_next (zs : List Int) (j : Nat) (h : j < zs.length) : flatL (zs.take (j + 1)) = flatL (zs.take j) ++ eightI (zs.getD j 0) := by
  rw [take_snoc zs j h]
  simp [flatL]
def sgT (x h n : Int) (ms : List Int) : List Int := putI n ++ flatL (endSs x n ms ++ pathN (leavesN x (2 ^ h.toNat)) n.toNat h.toNat)
def saT (x h n : Int) (ms : List Int) : List Int × Int × Int := if n = ((2 ^ h.toNat : Nat) : Int) then ([], n, 2) else (sgT x h n ms, n + 1, 0)
theorem heap_set_at {w : World} {g t : Nat} {c0 c1 c2 c3 : Value} (h : w.heap[g]? = some (.cells #[c0, c1, c2, c3] t (0, 0))) (v : Value) : (w.setCell ⟨g, 3, none⟩ v).heap[g]? = some (.cells #[c0, c1, c2, v] t (0, 0)) := heap_setCell_same w g 3 _ t v h
theorem ownU_nil' {B : Nat} {w : World} {a : Option Addr} {n cap : Nat} {zs : List Int} (h : OwnU B w a n cap zs) : a = none → cap = 0 := by
  intro e
  rcases h.row.2 with ⟨hv, _⟩ | ⟨g, cap', cur, hv, _⟩
  · simp only [Value.slice.injEq] at hv; exact hv.2.2
  · simp only [Value.slice.injEq] at hv; rw [e] at hv; cases hv.1
theorem own_other {B : Nat} {w : World} {a : Option Addr} {n cap gz : Nat} {bs : List Int} {cur : Array Value} (h : Own B w a n cap bs) (hz : w.heap[gz]? = some (.cells cur 26 (0, 0))) : some gz ≠ (Value.slice a n cap).ownBlock := by
  intro he
  rcases h.row.2 with ⟨hv, _⟩ | ⟨g', cap', cur', hv, _, hh, _⟩
  · rw [hv] at he; cases he
  · rw [hv] at he
    simp only [Value.ownBlock, Option.some.injEq] at he
    rw [← he, hz] at hh
    simp at hh
theorem cells3' {W : World} {g : Nat} {x y z : Value} {t : TypeId} (h : W.heap[g]? = some (.cells #[x, y, z] t (0, 0))) : W.cell? ⟨g, 0, none⟩ = some x ∧ W.cell? ⟨g, 1, none⟩ = some y ∧ W.cell? ⟨g, 2, none⟩ = some z :=
  ⟨(cell_of_row _ _ 0 _ t (0, 0) h).trans rfl, (cell_of_row _ _ 1 _ t (0, 0) h).trans rfl, (cell_of_row _ _ 2 _ t (0, 0) h).trans rfl⟩
/-- Behind the call of TreeSign: the secret's box has its next leaf. -/
theorem Bx2.next {g : Nat} {sc x h n : Int} {w1 : World} (b : Bx2 g sc x h n w1) (m : Int) : Bx2 g sc x h m (w1.setCell ⟨g, 3, none⟩ (.int .i64 m)) :=
  ⟨heap_set_at b.s _, (Below.heap_setCell _ _ _ _ (by simp)).trans b.r⟩

set_option maxRecDepth 10000 in
set_option maxHeartbeats 8000000 in
theorem treeSign_any (sc x h n : Int) (am : Option Addr) (nn c : Nat) (ms : List Int) (w : World) (hx : U64 x) (hk : kP h n) (hr : Row w am nn ms) (hn : nn ≤ 1048576) :
    Calls Tryz.prog 132 #[.agg #[], scv sc x h n, .slice am nn c] w fun e w' => ∃ a cap, e = .returned (.tuple #[.slice a (saT x h n ms).1.length cap, scv sc x h (saT x h n ms).2.1, .int .i64 (saT x h n ms).2.2]) ∧ Own w.heap.size w' a (saT x h n ms).1.length cap (saT x h n ms).1 ∧ Below w.heap.size w w' := by
  obtain ⟨i0, hi, hz0, hz1, hz2⟩ := info_parts Tryz.info5
  obtain ⟨w1, hw1⟩ : ∃ w1, w1 = ((w.alloc (.cells #[] 142)).alloc (.cells #[.int .i64 sc, .int .u64 x, .int .i64 h, .int .i64 n] 33)).alloc (.cells #[.int .i64 0, .int .u64 0, .int .i64 0, .int .i64 0] 33) := ⟨_, rfl⟩
  have hbb : Below w.heap.size w w1 := by rw [hw1]; exact three_belowT _ _ _ _
  have HB1 : Hid (Bx2 (w.heap.size + 1) sc x h n w1) := by
    show Bx2 _ _ _ _ _ _
    rw [hw1]
    exact ⟨(alloc_oldT _ _ _ (by simp)).trans (two_blocks w _ _).2, three_blocksT _ _ _ _⟩
  have hs1 : w1.heap.size = w.heap.size + 1 + 1 + 1 := by rw [hw1]; simp
  have HW : Hid (_ = _) := hw1
  have HR1 : Hid (Row w1 am nn ms) := hr.kept hbb
  clear hw1 hr
  obtain ⟨T, hT⟩ : ∃ T, T = saT x h n ms := ⟨_, rfl⟩
  rw [← hT, scv]
  have HT0 : Hid (_ = _) := hT
  clear hT
  go_enter Tryz.func132, Tryz.ntmps132
  go_upto_region 1 with fail
  rw [← HW.out]
  clear HW
  obtain ⟨s0, s1, s2, s3⟩ := cells4 HB1.out.s
  go_wp2_with fail
  refine (treeKeyOf_any sc x h n _).mono ?_
  rintro e w2 ⟨rfl, hb2⟩
  clear s0 s1 s2 s3
  go_wp2_with fail
  refine (implTreeSign_any x h n am nn c ms _ hx (HR1.out.kept hb2) (by omega)).mono ?_
  rintro e w3 ⟨v, rfl, hv, hb3⟩
  have hb13 := keepT hb2 hb3
  have hs2 := hb2.size
  have hs3 := hb3.size
  cases hv with
  | bad hkk => exact absurd hk hkk
  | used _ hu =>
    have HT : Hid (T = ([], n, 2)) := by show _ = _; rw [HT0.out]; unfold saT; rw [if_pos hu]
    clear hu
    rw [tsv, tkv]
    obtain ⟨w5, hw5⟩ : ∃ w5, w5 = (w3.alloc (.cells #[.int .i64 0, .slice none 0 0, .slice none 0 0] 86)).alloc (.cells #[.int .u64 x, .int .i64 h, .int .i64 n] 88) := ⟨_, rfl⟩
    have hb5 : Below w3.heap.size w3 w5 := by rw [hw5]; exact two_below _ _ _
    have hk5 : w5.heap[w3.heap.size + 1]? = some (.cells #[.int .u64 x, .int .i64 h, .int .i64 n] 88) := by rw [hw5]; exact (two_blocks _ _ _).2
    have hb15 := keepT hb13 hb5
    have hx5 := HB1.out.kept hb15
    have HW5 : Hid (_ = _) := hw5
    clear hw5
    go_upto_region 2 with fail
    rw [← HW5.out]
    clear HW5
    have t2 : w5.cell? ⟨w3.heap.size + 1, 2, none⟩ = some (.int .i64 n) := (cell_of_row _ _ 2 _ 88 (0, 0) hk5).trans rfl
    obtain ⟨s0, s1, s2, s3⟩ := cells4 hx5.s
    obtain ⟨f0, f1, f2, f3⟩ := frozen4 hx5.s
    have hx6 := hx5.next n
    have HX6 : Hid (_) := hx6
    obtain ⟨w6, hw6⟩ : ∃ w6, w6 = w5.setCell ⟨w.heap.size + 1, 3, none⟩ (.int .i64 n) := ⟨_, rfl⟩
    have hb6 : Below w.heap.size w w6 := by rw [hw6]; exact (keepT hbb hb15).setCell (by show w.heap.size ≤ w.heap.size + 1; omega) _
    rw [← hw6] at hx6 HX6
    have HW6 : Hid (_ = _) := hw6
    clear hw6
    go_upto_region 4 with fail
    rw [← HW6.out]
    clear HW6 s0 s1 s2 s3 f0 f1 f2 f3 t2
    obtain ⟨s0, s1, s2, s3⟩ := cells4 hx6.s
    obtain ⟨r0, r1, r2, r3⟩ := cells4 hx6.r
    obtain ⟨f0, f1, f2, f3⟩ := frozen4 hx6.r
    clear hx6 hx5 hk5
    go_region
    all_goals
      go_wp2
      try simp only [Exit.inBlock, Exit.then]
      exact bodyPost_ret (results_sa rfl _ (w.heap.size + 1 + 1) rfl _ rfl _ rfl _ _ _ _ _ (by first | exact heap_set4 HX6.out.r _ _ _ _ | (rw [heap_drew]; exact heap_set4 HX6.out.r _ _ _ _))) rfl ⟨none, 0, by rw [HT.out]; rfl, by rw [HT.out]; exact own_none _ _, by first | exact below_set4 hb6 _ (by omega) _ _ _ _ | exact (below_set4 hb6 _ (by omega) _ _ _ _).drew⟩
  | made _ hu a1 c1 a2 c2 M h1 hM hB h2 =>
    obtain ⟨zs, hzs⟩ : ∃ zs, zs = endSs x n ms ++ pathN (leavesN x (2 ^ h.toNat)) n.toNat h.toNat := ⟨_, rfl⟩
    have HT : Hid (T = (putI n ++ flatL zs, n + 1, 0)) := by show _ = _; rw [HT0.out, hzs]; unfold saT sgT; rw [if_neg hu]
    obtain ⟨H, hH⟩ : ∃ H, H = h.toNat := ⟨_, rfl⟩
    have hH5 : H ≤ 5 := by have := hk.1; omega
    obtain ⟨es, hes⟩ : ∃ es, es = endSs x n ms := ⟨_, rfl⟩
    obtain ⟨ps, hps⟩ : ∃ ps, ps = pathN (leavesN x (2 ^ h.toNat)) n.toNat h.toNat := ⟨_, rfl⟩
    rw [← hes, ← hps] at hzs
    rw [← hes] at h1
    rw [← hps, ← hH] at h2
    rw [← hH]
    have hnb : n ≤ 9223372036854775806 := by
      have a1 := hk.2.2
      rw [← hH] at a1
      have a2 : 2 ^ H ≤ 2 ^ 5 := Nat.pow_le_pow_right (by decide) hH5
      omega
    have HZL : Hid (zs.length = 18 + H) := by show _ = _; rw [hzs, List.length_append, h1.len, h2.len]
    have HZ : Hid (zs = es ++ ps) := hzs
    clear hH hes hps hzs hu
    rw [tsv, tkv]
    obtain ⟨w5, hw5⟩ : ∃ w5, w5 = (w3.alloc (.cells #[.int .i64 n, .slice a1 18 c1, .slice a2 H c2] 86)).alloc (.cells #[.int .u64 x, .int .i64 h, .int .i64 (n + 1)] 88) := ⟨_, rfl⟩
    have hb5 : Below w3.heap.size w3 w5 := by rw [hw5]; exact two_below _ _ _
    have hk5 : w5.heap[w3.heap.size + 1]? = some (.cells #[.int .u64 x, .int .i64 h, .int .i64 (n + 1)] 88) := by rw [hw5]; exact (two_blocks _ _ _).2
    have hg5 : w5.heap[w3.heap.size]? = some (.cells #[.int .i64 n, .slice a1 18 c1, .slice a2 H c2] 86) := by rw [hw5]; exact (two_blocks _ _ _).1
    have hb15 := keepT hb13 hb5
    have hx5 := HB1.out.kept hb15
    have HW5 : Hid (_ = _) := hw5
    clear hw5
    go_upto_region 2 with fail
    rw [← HW5.out]
    clear HW5
    have t2 : w5.cell? ⟨w3.heap.size + 1, 2, none⟩ = some (.int .i64 (n + 1)) := (cell_of_row _ _ 2 _ 88 (0, 0) hk5).trans rfl
    obtain ⟨s0, s1, s2, s3⟩ := cells4 hx5.s
    obtain ⟨f0, f1, f2, f3⟩ := frozen4 hx5.s
    obtain ⟨w6, hw6⟩ : ∃ w6, w6 = w5.setCell ⟨w.heap.size + 1, 3, none⟩ (.int .i64 (n + 1)) := ⟨_, rfl⟩
    have hb6 : Below w.heap.size w w6 := by rw [hw6]; exact (keepT hbb hb15).setCell (by show w.heap.size ≤ w.heap.size + 1; omega) _
    have HX6 : Hid (Bx2 (w.heap.size + 1) sc x h (n + 1) w6) := by show Bx2 _ _ _ _ _ _; rw [hw6]; exact hx5.next _
    have HU1 : Hid (OwnU w2.heap.size w6 a1 18 c1 es) := by show OwnU _ _ _ _ _ _; rw [hw6]; exact (h1.kept hb5).set (by omega) _ _
    have HU2 : Hid (OwnU M w6 a2 H c2 ps) := by show OwnU _ _ _ _ _ _; rw [hw6]; exact (h2.kept hb5).set (by omega) _ _
    have HG6 : Hid (w6.heap[w3.heap.size]? = some (.cells #[.int .i64 n, .slice a1 18 c1, .slice a2 H c2] 86)) := by show _ = _; rw [hw6]; exact (Below.heap_setCell _ _ _ _ (by simp; omega)).trans hg5
    have hsz6 : w.heap.size + 1 + 1 < w6.heap.size := (Array.getElem?_eq_some_iff.1 HX6.out.r).1
    have HW6 : Hid (_ = _) := hw6
    clear hw6 hx5 hk5 hg5 h1 h2 hM hB
    go_upto_region 5 with fail
    rw [← HW6.out]
    clear HW6 s0 s1 s2 s3 f0 f1 f2 f3 t2
    obtain ⟨g0, g1, g2⟩ := cells3' HG6.out
    go_wp2_with fail
    refine (implPutNum_any n _ (by omega)).mono ?_
    rintro e w7 ⟨a7, c7, rfl, ho7, hb7⟩
    clear g0 g1 g2
    have e7 := (hb7.block _ (Array.getElem?_eq_some_iff.1 HG6.out).1).trans HG6.out
    obtain ⟨g0, g1, g2⟩ := cells3' e7
    have HO7 : Hid (Own w6.heap.size w7 a7 (putI n).length c7 (putI n)) := ho7
    clear e7 ho7
    go_wp2_with fail
    have hb8 : Below w7.heap.size w7 (w7.alloc (.cells #[.slice a1 18 c1, .slice a2 H c2] 84)) := (Below.refl _ _).alloc (Nat.le_refl _) _
    refine (concatU_two w7.heap.size a1 18 c1 es a2 H c2 ps _ (heap_alloc_new w7 _) ((HU1.out.toRow.kept hb7).kept hb8) (ownU_nil' HU1.out) ((HU2.out.toRow.kept hb7).kept hb8) (ownU_nil' HU2.out) (by decide) (by omega)).mono ?_
    rintro e w9 ⟨az, cz, rfl, hoz, hb9⟩
    clear g0 g1 g2
    have hb79 := keepT hb8 hb9
    have hb69 := keepT hb7 hb79
    have HZ9 : Hid (RowU w9 az (18 + H) zs) := by show RowU _ _ _ _; rw [HZ.out]; exact hoz.toRow
    have HO9 : Hid (Own w6.heap.size w9 a7 ((putI n).length + 8 * 0) c7 (putI n ++ flatL (zs.take 0))) := by
      show Own _ _ _ _ _ _
      have := HO7.out.kept hb79
      simpa [flatL] using this
    have hpl := putI_len n (by omega)
    obtain ⟨gz, cur, rfl, hgz⟩ : ∃ gz cur, az = some ⟨gz, 0, none⟩ ∧ w9.heap[gz]? = some (.cells cur 26 (0, 0)) := by
      rcases hoz.row.2 with ⟨_, h0⟩ | ⟨g, cap', cur, hv, _, hg, _⟩
      · omega
      · simp only [Value.slice.injEq] at hv
        exact ⟨g, cur, hv.1, hg⟩
    clear hoz HO7
    go_wp2
    go_loopw [12, 40] (fun o i wr => ∃ (j cc : Nat) (ao : Option Addr), j ≤ 18 + H ∧ i = .int .i64 j ∧ o = .slice ao ((putI n).length + 8 * j) cc ∧ Own w6.heap.size wr ao ((putI n).length + 8 * j) cc (putI n ++ flatL (zs.take j)) ∧ Below w6.heap.size w6 wr ∧ wr.heap[gz]? = some (.cells cur 26 (0, 0))) (fun _ i _ => 18 + H - (intOf i).toNat)
    case atStart => exact ⟨0, c7, a7, by omega, rfl, rfl, HO9.out, hb69, hgz⟩
    case round =>
      obtain ⟨j, cc, ao, hj, rfl, rfl, hor, hbr, hzr⟩ := hrel
      have hszr := hbr.size
      by_cases hlt : j < 18 + H
      · have hlti : (j : Int) < ((18 + H : Nat) : Int) := by omega
        have hlti2 : (j : Int) < 18 + (H : Int) := by omega
        obtain ⟨b, off, hb', hlb, hcz⟩ := HZ9.out.get j hlt
        simp only [Option.some.injEq, Addr.mk.injEq, and_true] at hb'
        obtain ⟨rfl, rfl⟩ := hb'
        have hc0 : wr.cell? ⟨gz, 0 + j, none⟩ = some (.int .u64 (zs.getD j 0)) := (World.cell?_of_block (hzr.trans hgz.symm)).trans hcz
        rw [Nat.zero_add] at hc0
        have hzb := HZ9.out.rng j
        obtain ⟨z, hz⟩ : ∃ z, z = zs.getD j 0 := ⟨_, rfl⟩
        have HNX : Hid (flatL (zs.take (j + 1)) = flatL (zs.take j) ++ eightI z) := by show _ = _; rw [hz]; exact flatL_next zs j (by rw [HZL.out]; exact hlt)
        rw [← hz] at hc0 hzb
        have HOR : Hid (_) := hor
        have HZR : Hid (_ = _) := hzr
        have HGZ : Hid (_ = _) := hgz
        clear hz hcz hor hzr hgz
        go_wp2_with fail
        refine (digestBytes_any z _ hzb.1 hzb.2).mono ?_
        rintro e wd ⟨gd, rfl, hrd, _, hbd⟩
        have hod := HOR.out.kept hbd
        have hzd := (hbd.block _ (Array.getElem?_eq_some_iff.1 HZR.out).1).trans HZR.out
        have hcd := keepT hbr hbd
        have hszd := hcd.size
        clear hc0
        go_wp2_with (first | (refine wpList_append_row _ rfl _ _ 22 rfl w6.heap.size i0 Tryz.underlying22 hi hz0 hz1 hz2 _ ((putI n).length + 8 * j) _ rfl hod.row (some ⟨gd, 0, none⟩) 8 8 (eightI z) rfl hrd (fun h => by cases h) (by omega) hszd ?_; intro v4 w4 hv4 hg4))
        have hbr4 : Below w6.heap.size w6 w4 := below_appended hcd hszd hod.row hg4
        have hz4 : w4.heap[gz]? = some (.cells cur 26 (0, 0)) := by
          exact (hg4.block gz (Array.getElem?_eq_some_iff.1 hzd).1 (own_other hod hzd)).trans hzd
        obtain ⟨a4, c4, rfl, ho4⟩ := own_appended hv4 hod.byte (eightI_byte z)
        rw [List.append_assoc, ← HNX.out, Nat.add_assoc, show 8 * j + 8 = 8 * (j + 1) by omega] at ho4
        have HO4 : Hid (_) := ho4
        have e8 : (putI n).length + 8 * j + 8 = (putI n).length + 8 * (j + 1) := by omega
        rw [e8]
        clear ho4 hv4 hg4 hod hzd
        go_wp2
        go_roundw
        case rel => exact ⟨j + 1, c4, a4, by omega, by go_num, rfl, HO4.out, hbr4, hz4⟩
        case measure => simp [intOf]; omega
      · obtain rfl : j = 18 + H := by omega
        have hnl : ¬ (18 + (H : Int) < 18 + (H : Int)) := by omega
        have HOR : Hid (_) := hor
        clear hor
        obtain ⟨s0, s1, s2, s3⟩ := cells4 (HX6.out.kept hbr).s
        obtain ⟨r0, r1, r2, r3⟩ := cells4 (HX6.out.kept hbr).r
        obtain ⟨f0, f1, f2, f3⟩ := frozen4 (HX6.out.kept hbr).r
        have HBR : Hid (_ = _) := (HX6.out.kept hbr).r
        go_upto_region 11 with fail
        go_region
        all_goals
          go_wp2
          try simp only [Exit.inBlock, Exit.then]
          have hB : Below w.heap.size w wr := hb6.trans (hbr.mono hb6.size)
          have hlen : (putI n ++ flatL zs).length = (putI n).length + 8 * (18 + H) := by rw [List.length_append, flatL_len, HZL.out]
          have hO := HOR.out
          rw [List.take_of_length_le (by rw [HZL.out]; exact Nat.le_refl _)] at hO
          have hO4 : Own w.heap.size ((set4 wr (w.heap.size + 1 + 1) (.int .i64 sc) (.int .u64 x) (.int .i64 h) (.int .i64 (n + 1))).drew) ao ((putI n).length + 8 * (18 + H)) cc (putI n ++ flatL zs) := ((hO.set4 hsz6 _ _ _ _).drew).mono hb6.size
          exact bodyPost_ret (results_sa rfl _ (w.heap.size + 1 + 1) rfl _ rfl _ rfl _ _ _ _ _ (by rw [heap_drew]; exact heap_set4 HBR.out _ _ _ _)) rfl ⟨ao, cc, by rw [HT.out]; show _ = Ending.returned (Value.tuple #[.slice ao (putI n ++ flatL zs).length cc, _, _]); rw [hlen]; rfl, by rw [HT.out]; show Own _ _ _ (putI n ++ flatL zs).length _ _; rw [hlen]; exact hO4, (below_set4 hB _ (by omega) _ _ _ _).drew⟩

end Go.Proofs.YtpnhhhhmonbajaaGreat

