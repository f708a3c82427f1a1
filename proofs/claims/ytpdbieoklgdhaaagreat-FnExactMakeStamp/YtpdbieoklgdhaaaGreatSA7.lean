import Derived.Test.YtpdbieoklgdhaaaGreatSA6
import Derived.Test.YtpdbieoklgdhaaaGreatTouch
namespace Go.Proofs.YtpdbieoklgdhaaaGreat
open Go.RowKit

theorem saV_len (sc x h n : Int) (ms : List Int) : (saV sc x h n ms).1.length ≤ 1000 := by
  unfold saV
  split
  · rename_i hk
    split
    · rename_i h1
      have hg : grpP x h n := hk.elim (fun a => a.2) (fun a => absurd a.1 (by omega))
      have hs : secP x := hg.1
      show (sgG x ms).length ≤ 1000
      unfold sgG
      rw [List.length_append]
      have e1 : (signR x ms).1.1 ≤ 9223372036854775807 := by unfold signR; rw [if_pos hs]; exact Int.le_trans (chalN_bd _ _ _).2 (by decide)
      have e2 : (signR x ms).1.2 ≤ 9223372036854775807 := by unfold signR; rw [if_pos hs]; show (nonN x ms + sigE x ms * x) % 500000003 ≤ _; omega
      have := putI_len _ e1
      have := putI_len _ e2
      omega
    · rename_i h1
      have hkk : kP h n := hk.elim (fun a => absurd a.1 h1) (fun a => a.2)
      show (saT x h n ms).1.length ≤ 1000
      unfold saT
      split
      · simp
      · show (sgT x h n ms).length ≤ 1000
        unfold sgT
        rw [List.length_append, flatL_len, List.length_append, endSs_len, pathN_len]
        have hb : n ≤ 9223372036854775807 := by
          have a1 := hkk.2.2
          have a2 : 2 ^ h.toNat ≤ 2 ^ 5 := Nat.pow_le_pow_right (by decide) (by have := hkk.1; omega)
          omega
        have := putI_len n hb
        have := hkk.1
        omega
  · simp

/-- The boxes of the law: the secret that came in, the one that the specification told, the one that the program told. -/
structure Sxs (K sB gB : Nat) (sc x h n : Int) (t : Sc4) (W : World) : Prop where
  k : W.heap[K]? = some (.cells #[.int .i64 sc, .int .u64 x, .int .i64 h, .int .i64 n] 24)
  s : W.heap[sB]? = some (.cells #[.int .i64 t.1, .int .u64 t.2.1, .int .i64 t.2.2.1, .int .i64 t.2.2.2] 28)
  g : W.heap[gB]? = some (.cells #[.int .i64 t.1, .int .u64 t.2.1, .int .i64 t.2.2.1, .int .i64 t.2.2.2] 28)
theorem Sxs.touch {K sB gB : Nat} {sc x h n : Int} {t : Sc4} {W W' : World} {lo hi : Nat} (b : Sxs K sB gB sc x h n t W) (ht : Touch lo hi W W') (h1 : K < lo ∨ hi ≤ K) (h2 : sB < lo ∨ hi ≤ sB) (h3 : gB < lo ∨ hi ≤ gB) : Sxs K sB gB sc x h n t W' :=
  ⟨(ht.block _ (Array.getElem?_eq_some_iff.1 b.k).1 h1).trans b.k, (ht.block _ (Array.getElem?_eq_some_iff.1 b.s).1 h2).trans b.s, (ht.block _ (Array.getElem?_eq_some_iff.1 b.g).1 h3).trans b.g⟩
theorem Sxs.kept {K sB gB : Nat} {sc x h n : Int} {t : Sc4} {W W' : World} (b : Sxs K sB gB sc x h n t W) (hb : Below W.heap.size W W') : Sxs K sB gB sc x h n t W' :=
  ⟨(hb.block _ (Array.getElem?_eq_some_iff.1 b.k).1).trans b.k, (hb.block _ (Array.getElem?_eq_some_iff.1 b.s).1).trans b.s, (hb.block _ (Array.getElem?_eq_some_iff.1 b.g).1).trans b.g⟩
theorem touch_grownS {w w' : World} {r : Option Nat} {lo hi : Nat} (hg : w.grownBy w' r) (hr : ∀ k, r = some k → lo ≤ k ∧ k < hi) : Touch lo hi w w' :=
  ⟨hg.os, hg.tape, hg.output, hg.size, fun k hk ho => hg.block k hk (fun e => by have := hr k e.symm; omega)⟩
theorem own_touchS {w w' : World} {B lo hi : Nat} {a : Option Addr} {n cap : Nat} {bs : List Int} (h : Own B w a n cap bs) (ht : Touch lo hi w w') (hd : hi ≤ B) : Own B w' a n cap bs := by
  refine ⟨⟨h.row.1, ?_⟩, h.byte⟩
  rcases h.row.2 with hv | ⟨g, cap, cur, hv, hb, hg, rest⟩
  · exact .inl hv
  · exact .inr ⟨g, cap, cur, hv, hb, (ht.block g (Array.getElem?_eq_some_iff.1 hg).1 (by omega)).trans hg, rest⟩

set_option maxRecDepth 10000 in
set_option maxHeartbeats 1000000 in
theorem eqSecret_same (t : Sc4) (w : World) :
    Calls Tryz.prog 8 #[scw t, scw t] w fun e w' => e = .returned (.bool true) ∧ Below w.heap.size w w' := by
  obtain ⟨a, b, c, d⟩ := t
  unfold scw
  have z1 : (a != a) = false := by simp
  have z2 : (b != b) = false := by simp
  have z3 : (c != c) = false := by simp
  have z4 : (d != d) = false := by simp
  have hbb : Below w.heap.size w ((w.alloc (.cells #[.int .i64 a, .int .u64 b, .int .i64 c, .int .i64 d] 28)).alloc (.cells #[.int .i64 a, .int .u64 b, .int .i64 c, .int .i64 d] 28)) := two_below _ _ _
  go_enter Tryz.func8, Tryz.ntmps8
  go_wp2
  go_ret
  exact ⟨rfl, hbb⟩

end Go.Proofs.YtpdbieoklgdhaaaGreat
