import Derived.Test.YtphhelhhploacaaSG1
import Derived.Test.YtphhelhhploacaaSG2
import Derived.Test.YtphhelhhploacaaGB6
import Derived.Test.YtphhelhhploacaaGB5
namespace Go.Proofs.Ytphhelhhploacaa
open Go.RowKit

/-- What is moved, as a power of G. -/
theorem mov_gp (k x a b : Int) (hk : 0 ≤ k) (hx : 0 ≤ x) (ha : expP a) (hb : expP b) : movN (gp 4 k) (gp 4 x) a b = gp 4 ((k + a - b * x) % 500000003) := by
  obtain ⟨K, rfl⟩ := Int.eq_ofNat_of_zero_le hk
  obtain ⟨X, rfl⟩ := Int.eq_ofNat_of_zero_le hx
  obtain ⟨A, rfl⟩ := Int.eq_ofNat_of_zero_le ha.1
  obtain ⟨B, rfl⟩ := Int.eq_ofNat_of_zero_le hb.1
  have hB : B ≤ 500000002 := by have := hb.2; omega
  have e2 : (500000003 : Int) - (B : Int) = ((500000003 - B : Nat) : Int) := by omega
  have e3 : ((K : Int) + (A : Int) - (B : Int) * (X : Int)) % 500000003 = (((K + A + X * (500000003 - B)) % 500000003 : Nat) : Int) := by
    have h1 : ((X * (500000003 - B) : Nat) : Int) = 500000003 * (X : Int) - (B : Int) * (X : Int) := by
      rw [Int.natCast_mul, Int.natCast_sub (by omega), Int.mul_sub, Int.mul_comm (X : Int), Int.mul_comm (X : Int)]
      rfl
    rw [Int.natCast_emod, Int.natCast_add, Int.natCast_add, h1]
    omega
  rw [e3]
  unfold movN
  rw [e2]
  simp only [gp, Int.toNat_natCast]
  unfold pw
  rw [pow_modQ g_order, pow_emod, ← Int.pow_mul, ← Int.mul_emod, Int.mul_emod (4 ^ K % 1000000007 * (4 ^ A % 1000000007)), ← Int.mul_emod (4 ^ K) (4 ^ A), ← Int.mul_emod, ← Int.pow_add, ← Int.pow_add]
theorem mov1_gp (x a b : Int) (hx : 0 ≤ x) (ha : expP a) (hb : expP b) : movN 1 (gp 4 x) a b = gp 4 ((a - b * x) % 500000003) := by
  have h := mov_gp 0 x a b (by decide) hx ha hb
  rw [show gp 4 0 = 1 from by decide] at h
  rw [h, Int.zero_add]

theorem modQ_bd (u : Int) : expP (u % 500000003) := ⟨by omega, by omega⟩
/-- What is asked for blindly, answered and done. -/
theorem blind_ver (x k a b e : Int) (hx : secP x) (hk : secP k) (ha : expP a) (hb : expP b) (he : expP e) :
    movN 1 (gp 4 x) (((k + (e - b) % 500000003 * x) % 500000003 + a) % 500000003) e = movN (gp 4 k) (gp 4 x) a b := by
  have hk0 : 0 ≤ k := by have := hk.1; omega
  have hx0 : 0 ≤ x := by have := hx.1; omega
  rw [mov1_gp x _ e hx0 (modQ_bd _) he, mov_gp k x a b hk0 hx0 ha hb]
  congr 1
  obtain ⟨q, hq⟩ : ∃ q, q = (e - b) % 500000003 := ⟨_, rfl⟩
  obtain ⟨t, ht⟩ : ∃ t, q = e - b - 500000003 * t := ⟨(e - b) / 500000003, by omega⟩
  have h1 : q * x = e * x - b * x - 500000003 * (t * x) := by rw [ht, Int.sub_mul, Int.sub_mul, Int.mul_assoc]
  rw [← hq, h1]
  omega
theorem blind_two (x k ask n2 E2 s S2 c d : Int) (hx : secP x) (hk : secP k) (hn : 0 ≤ n2 ∧ n2 ≤ 500000002)
    (hs : s = (k + ask * x) % 500000003) (hS : S2 = (n2 + E2 * x) % 500000003) (hc : c = (S2 - s + 500000003) % 500000003) (hd : d = (E2 - ask + 500000003) % 500000003) :
    movN (gp 4 k) (gp 4 x) c d = gp 4 n2 := by
  have hk0 : 0 ≤ k := by have := hk.1; omega
  have hx0 : 0 ≤ x := by have := hx.1; omega
  rw [mov_gp k x c d hk0 hx0 (by rw [hc]; exact modQ_bd _) (by rw [hd]; exact modQ_bd _)]
  congr 1
  obtain ⟨t, ht⟩ : ∃ t, d = E2 - ask + 500000003 - 500000003 * t := ⟨(E2 - ask + 500000003) / 500000003, by omega⟩
  have h1 : d * x = E2 * x - ask * x + 500000003 * x - 500000003 * (t * x) := by rw [ht, Int.sub_mul, Int.add_mul, Int.sub_mul, Int.mul_assoc]
  rw [h1]
  omega

def mems : List Int := [0, 1, 2, 4, 1000000006, 1000000007, -4]
theorem mems_range (k : Nat) : -4 ≤ mems.getD k 0 ∧ mems.getD k 0 ≤ 1000000007 := by
  match k with
  | 0 | 1 | 2 | 3 | 4 | 5 | 6 => decide
  | k + 7 => simp [mems]
theorem mems_cell (w : World) (k : Nat) (h : k < 7) : (w.alloc (.cells #[.int .i64 0, .int .i64 1, .int .i64 2, .int .i64 4, .int .i64 1000000006, .int .i64 1000000007, .int .i64 (-4)] 2)).cell? ⟨w.heap.size, k, none⟩ = some (.int .i64 (mems.getD k 0)) := by
  rw [cell_of_row _ w.heap.size k _ 2 (0, 0) (heap_alloc_new w _)]
  have hc : k = 0 ∨ k = 1 ∨ k = 2 ∨ k = 3 ∨ k = 4 ∨ k = 5 ∨ k = 6 := by omega
  rcases hc with rfl | rfl | rfl | rfl | rfl | rfl | rfl <;> rfl

set_option maxRecDepth 10000 in
set_option maxHeartbeats 1000000 in
theorem drawMember_any (g : Nat) (a : Option Addr) (n cap : Nat) (bs : List Int) (w : World) (h : Rd w g a n cap bs) :
    Calls Try.prog 64 #[.pointer (some ⟨g, 0, none⟩)] w fun e w' => ∃ v : Int, e = .returned (.int .i64 v) ∧ -4 ≤ v ∧ v ≤ 1000000007 ∧ RdPost w g a n cap bs w' := by
  have H : Hid (Rd w g a n cap bs) := h
  clear h
  go_enter Try.func64, Try.ntmps64
  go_wp2_with fail
  refine (once_any g a n cap bs 10 _ H.out (by decide) (by decide)).mono ?_
  rintro e w1 ⟨c, rfl, hp1⟩
  cases c
  · go_wp2_with fail
    refine (word_any g a n cap bs _ hp1.1).mono ?_
    rintro e w2 ⟨v, rfl, hv0, hv1, hp2⟩
    have hm0 : 0 ≤ v % 500000002 := by omega
    have hm1 : v % 500000002 ≤ 500000001 := by omega
    go_wp2_with fail
    refine (l7Pow_any 4 (1 + v % 500000002) 1000000007 _ (by decide) (by decide) (by decide) (by decide) (by omega) (by omega)).mono ?_
    rintro r w3 ⟨rfl, hw3⟩
    have hw4 := hw3.symm
    subst hw4
    have hb := mod_bd (4 ^ (1 + v % 500000002).toNat) (show (1 : Int) ≤ 1000000007 by decide)
    have HB : Hid (0 ≤ pw 4 (1 + v % 500000002).toNat 1000000007 ∧ pw 4 (1 + v % 500000002).toNat 1000000007 < 1000000007) := hb
    clear hb
    obtain ⟨z, hz⟩ : ∃ z, z = pw 4 (1 + v % 500000002).toNat 1000000007 := ⟨_, rfl⟩
    rw [← hz] at HB ⊢
    clear hz
    go_wp2
    go_ret
    have h2 := HB.out
    exact ⟨z, rfl, by omega, by omega, hp1.step hp2⟩
  · go_wp2_with fail
    refine (below_any g a n cap bs 7 _ (hp1.alloc _).1 (by decide)).mono ?_
    rintro e w2 ⟨v, rfl, hv0, hv1, hp2⟩
    obtain ⟨k, rfl⟩ := Int.eq_ofNat_of_zero_le hv0
    have hk : k < 7 := by omega
    have hki : (k : Int) < 7 := by omega
    have hgl : g < w1.heap.size := hp1.1.lt
    have hcell : w2.cell? ⟨w1.heap.size, k, none⟩ = some (.int .i64 (mems.getD k 0)) :=
      (World.cell?_of_block (a := ⟨w1.heap.size, k, none⟩) (hp2.2.block w1.heap.size (by simp) (.inr (by omega)))).trans (mems_cell w1 k hk)
    obtain ⟨y, hy⟩ : ∃ y, y = mems.getD k 0 := ⟨_, rfl⟩
    have hyr := mems_range k
    rw [← hy] at hcell hyr
    clear hy
    go_wp2
    go_ret
    exact ⟨y, rfl, hyr.1, hyr.2, (hp1.alloc _).step hp2⟩

theorem results_tmp5 {fn : Func} {t u v x y : Tmp} (h : fn.results = #[.tmp t, .tmp u, .tmp v, .tmp x, .tmp y]) (tmps : Array Value) (P : Program) (w : World) :
    (results fn tmps).run P w = .ok (.tuple #[tmps.getD t undef, tmps.getD u undef, tmps.getD v undef, tmps.getD x undef, tmps.getD y undef]) w := by
  simp [results, h]

/-- What is drawn for a blind asking. -/
def DrawnB (w0 w' : World) (am : Option Addr) (k c : Nat) (ms : List Int) (a b : Int) : Prop := (-1 ≤ a ∧ a ≤ 1000000007) ∧ (-1 ≤ b ∧ b ≤ 1000000007) ∧ k ≤ 10 ∧ Row w' am k ms ∧ (am = none → c = 0) ∧ Below w0.heap.size w0 w'

set_option maxRecDepth 10000 in
set_option maxHeartbeats 1000000 in
theorem drawBlindAsk_any (a : Option Addr) (n cap : Nat) (bs : List Int) (w : World) (h : Row w a n bs) (hn : n ≤ 1000000000) :
    Calls Try.prog 23 #[.slice a n cap] w fun r w' => ∃ (v1 v2 : Int) (am : Option Addr) (k c : Nat) (ms : List Int) (v3 v4 : Int), r = .returned (.tuple #[.int .i64 v1, .int .i64 v2, .slice am k c, .int .i64 v3, .int .i64 v4]) ∧ DrawnB w w' am k c ms v3 v4 := by
  have H : Hid (Row w a n bs) := h
  clear h
  go_enter Try.func23, Try.ntmps23
  go_wp2_with fail
  refine (open_any a n cap bs _ H.out hn).mono ?_
  rintro e w1 ⟨rfl, hr, hb⟩
  go_wp2_with fail
  refine (drawMember_any _ a n cap bs _ hr).mono ?_
  rintro e w2 ⟨v1, rfl, _, _, hp2⟩
  go_wp2_with fail
  refine (drawMember_any _ a n cap bs _ hp2.1).mono ?_
  rintro e w3 ⟨v2, rfl, _, _, hp3⟩
  go_wp2_with fail
  refine (bytes_any _ a n cap bs 10 _ hp3.1 (by decide) (by decide)).mono ?_
  rintro e w4 ⟨am, k, c', ms, rfl, hk, ho, hp4⟩
  have HO4 : Hid (Own w3.heap.size w4 am k c' ms) := ho
  clear ho
  go_wp2_with fail
  refine (drawExp_any _ a n cap bs _ hp4.1).mono ?_
  rintro e w5 ⟨v3, rfl, h30, h31, hp5⟩
  go_wp2_with fail
  refine (drawExp_any _ a n cap bs _ hp5.1).mono ?_
  rintro e w6 ⟨v4, rfl, h40, h41, hp6⟩
  have hB := ((((hp2.step hp3).step hp4).step hp5).step hp6).below hb
  have hg : w.heap.size + 1 ≤ w3.heap.size := hp3.1.lt
  have hT := hp5.2.trans hp6.2
  have HO : Hid (Own w3.heap.size w6 am k c' ms) := HO4.out.touched hT hg
  clear hp2 hp3 hp4 hp5 hp6 hr hT
  go_wp2
  (try simp only [Exit.inBlock, Exit.then])
  refine bodyPost_ret (results_tmp5 rfl _ _ _) rfl ?_
  exact ⟨v1, v2, am, k, c', ms, v3, v4, rfl, ⟨h30, h31⟩, ⟨h40, h41⟩, by omega, HO.out.toRow, HO.out.nil, hB⟩

set_option maxRecDepth 10000 in
set_option maxHeartbeats 400000 in
theorem big_any2 (a : Option Addr) (n cap : Nat) (w : World) (hn : n ≤ 9223372036854775807) :
    Calls Try.prog 9 #[.slice a n cap] w fun r w' => r = .returned (.bool (decide (1048576 < n))) ∧ w' = w := by
  have e : decide (1048576 < n) = decide ((1048576 : Int) < (n : Int)) := by simp; omega
  rw [e]
  go_enter Try.func9, Try.ntmps9
  go_wp2
  go_ret
  exact ⟨rfl, rfl⟩

end Go.Proofs.Ytphhelhhploacaa
