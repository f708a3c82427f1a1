import Derived.Test.YtkngnmnfkedfcaaGreatTV2
namespace Go.Proofs.YtkngnmnfkedfcaaGreat
open Go.RowKit

/-- The way up from a leaf's digest, by what stands beside it. -/
def climb (v : Int) (L : Nat) (ps : List Int) : Nat → Int
  | 0 => v
  | k + 1 => if L / 2 ^ k % 2 = 0 then hashD ndW [climb v L ps k, ps.getD k 0] else hashD ndW [ps.getD k 0, climb v L ps k]
theorem climb_bd (v : Int) (hv : U64 v) (L : Nat) (ps : List Int) (k : Nat) : U64 (climb v L ps k) := by
  cases k with
  | zero => exact hv
  | succ k => rw [climb]; split <;> exact hashD_bd _ _

set_option maxRecDepth 10000 in
set_option maxHeartbeats 4000000 in
theorem rootFrom_any (v : Int) (L : Nat) (a : Option Addr) (n c : Nat) (ps : List Int) (w : World) (hv : U64 v) (hL : L ≤ 1000) (hr : RowU w a n ps) (hn : n ≤ 1000) :
    Calls Tryz.prog 132 #[.int .u64 v, .int .i64 L, .slice a n c] w fun e w' => e = .returned (.int .u64 (climb v L ps n)) ∧ Below w.heap.size w w' := by
  have HV : Hid (U64 v) := hv
  have H0 : Hid (RowU w a n ps) := hr
  clear hv hr
  have HND : Hid (strL ⟨#[110, 111, 100, 101]⟩ = ndW) := by show _ = _; decide
  go_enter Tryz.func132, Tryz.ntmps132
  go_wp2
  go_loopw [0, 1, 8, 11] (fun d l _ i wr => ∃ (k m : Nat) (x : Int), k ≤ n ∧ i = .int .i64 k ∧ d = .int .u64 x ∧ l = .int .i64 m ∧ m ≤ 1000 ∧ Hid (m = L / 2 ^ k) ∧ Hid (x = climb v L ps k) ∧ Below w.heap.size w wr) (fun _ _ _ i _ => n - (intOf i).toNat)
  case atStart => exact ⟨0, L, v, Nat.zero_le _, rfl, rfl, rfl, hL, by show _ = _; simp, rfl, Below.refl _ _⟩
  case round =>
    obtain ⟨k, m, x, hk, rfl, rfl, rfl, hm, HM, HX, hbr⟩ := hrel
    by_cases hlt : k < n
    · have hlti : (k : Int) < (n : Int) := by omega
      obtain ⟨b, off, rfl, hlb, hc0⟩ := H0.out.get k hlt
      have hcell : wr.cell? ⟨b, off + k, none⟩ = some (.int .u64 (ps.getD k 0)) := (hbr.cell (p := ⟨b, off + k, none⟩) hlb).trans hc0
      have hpb := H0.out.rng k
      obtain ⟨p, hp⟩ : ∃ p, p = ps.getD k 0 := ⟨_, rfl⟩
      have HPP : Hid (ps.getD k 0 = p) := hp.symm
      rw [← hp] at hcell hpb
      have hxb : U64 x := by rw [HX.out]; exact climb_bd v HV.out L ps k
      have ham := and1 (m : Int) (by omega) (by omega)
      have HM2 : Hid (((m / 2 : Nat) : Int) = (m : Int) / 2) := by show _ = _; omega
      have HM3 : Hid (m / 2 = L / 2 ^ (k + 1)) := by show _ = _; rw [HM.out, Nat.pow_succ, Nat.div_div_eq_div_mul]
      clear hc0 hp
      have hdr : Below wr.heap.size wr (wr.alloc (.cells #[.int .u64 x, .int .u64 p] 48)) := (Below.refl _ _).alloc (Nat.le_refl _) _
      have hdr2 : Below wr.heap.size wr (wr.alloc (.cells #[.int .u64 p, .int .u64 x] 48)) := (Below.refl _ _).alloc (Nat.le_refl _) _
      by_cases he : m % 2 = 0
      · have hmi : (m : Int) % 2 = 0 := by omega
        have HN : Hid (hashD ndW [x, p] = climb v L ps (k + 1)) := by show _ = _; rw [climb, ← HM.out, if_pos he, ← HX.out, HPP.out]
        go_wp2_with fail
        refine (hashDigests_any _ _ 2 2 [x, p] _ (rowU_lit2 wr x p hxb hpb) (by decide) (by decide)).mono ?_
        rintro e w3 ⟨rfl, hb3⟩
        rw [HND.out, HN.out]
        go_wp2
        rw [← HM2.out]
        go_roundw
        case rel => exact ⟨k + 1, m / 2, _, by omega, by go_num, rfl, rfl, by omega, HM3, rfl, keepT hbr (keepT hdr hb3)⟩
        case measure => simp [intOf]; omega
      · have hmi : (m : Int) % 2 = 1 := by omega
        have HN : Hid (hashD ndW [p, x] = climb v L ps (k + 1)) := by show _ = _; rw [climb, ← HM.out, if_neg he, ← HX.out, HPP.out]
        go_wp2_with fail
        refine (hashDigests_any _ _ 2 2 [p, x] _ (rowU_lit2 wr p x hpb hxb) (by decide) (by decide)).mono ?_
        rintro e w3 ⟨rfl, hb3⟩
        rw [HND.out, HN.out]
        go_wp2
        rw [← HM2.out]
        go_roundw
        case rel => exact ⟨k + 1, m / 2, _, by omega, by go_num, rfl, rfl, by omega, HM3, rfl, keepT hbr (keepT hdr2 hb3)⟩
        case measure => simp [intOf]; omega
    · obtain rfl : k = n := by omega
      go_wp2
      go_ret
      exact ⟨by rw [HX.out]; rfl, hbr⟩

end Go.Proofs.YtkngnmnfkedfcaaGreat
