import Derived.Test.YtmmdklaajejeiaaWRd2
import Derived.Test.YtmmdklaajejeiaaWInj
namespace Go.Proofs.Ytmmdklaajejeiaa
open Go.RowKit

theorem Try.info22' : (Try.prog.info? 22).map (fun i => (i.zero, i.size, i.bytes)) = some (some (.slice none 0 0), 1, 24) := by kernel_rfl

set_option maxHeartbeats 400000 in
theorem byteAt_any (a : Option Addr) (n cap : Nat) (bs : List Int) (i : Nat) (m : Int) (w : World) (h : Row w a n bs) (_hn : n ≤ 1000000000) (_hi : i ≤ 1) (hm : 0 < m) (_hm' : m ≤ 1000000000) :
    Calls Try.prog 23 #[.slice a n cap, .int .i64 (i : Int), .int .i64 m] w fun e w' => ∃ v : Int, e = .returned (.int .i64 v) ∧ 0 ≤ v ∧ v < m ∧ w = w' := by
  have H : Hid (Row w a n bs) := h
  clear h
  by_cases hlt : i < n
  · obtain ⟨b, off, rfl, hb, hc⟩ := H.out.get i hlt
    obtain ⟨x, hx⟩ : ∃ x, x = bs.getD i 0 := ⟨_, rfl⟩
    have hxb := H.out.byte i
    rw [← hx] at hc hxb
    obtain ⟨hx0, hx1⟩ := hxb
    clear hx
    have hlti : (i : Int) < (n : Int) := by omega
    go_enter Try.func23, Try.ntmps23
    go_wp2
    go_ret
    exact ⟨x % m, rfl, Int.emod_nonneg _ (by omega), Int.emod_lt_of_pos _ hm, rfl⟩
  · have hge : (n : Int) ≤ (i : Int) := by omega
    go_enter Try.func23, Try.ntmps23
    go_wp2
    go_ret
    exact ⟨0, rfl, by decide, hm, rfl⟩

/-- Parts of our own: a row of rows, each in a block of its own, all below 'top'. -/
structure Parts (B top : Nat) (w : World) (a : Option Addr) (n cap : Nat) (bss : List (List Int)) : Prop where
  len : bss.length = n
  owns : ∃ (A : Nat → Option Addr) (L C : Nat → Nat), w.ownsRow B 22 1 (.slice a n cap) n ((List.range n).map fun j => .slice (A j) (L j) (C j)) ∧ (∀ j, j < n → Own B w (A j) (L j) (C j) (bss.getD j [])) ∧ (∀ j k, j < k → k < n → ∀ g g', A j = some ⟨g, 0, none⟩ → A k = some ⟨g', 0, none⟩ → g < g') ∧ (∀ j, j < n → ∀ g, A j = some ⟨g, 0, none⟩ → g < top)

theorem blocks5_22 {w : World} {B s s' n m : Nat} {v u : Value} {xs ys : List Value} {e e' : TypeId} (h : w.ownsRow B e s v n xs) (k : w.ownsRow B e' s' u m ys) (hne : e ≠ e') : v.ownBlock = none ∨ v.ownBlock ≠ u.ownBlock := by
  rcases h.2 with ⟨rfl, _⟩ | ⟨g, cap, cur, rfl, _, hg, _⟩
  · exact .inl rfl
  · right
    rcases k.2 with ⟨rfl, _⟩ | ⟨g', cap', cur', rfl, _, hg', _⟩
    · simp [Value.ownBlock]
    · simp only [Value.ownBlock, ne_eq, Option.some.injEq]
      intro e0
      subst e0
      rw [hg] at hg'
      simp at hg'
      exact hne hg'.2

theorem Parts.kept {B top : Nat} {w w' : World} {a : Option Addr} {n cap : Nat} {bss : List (List Int)} (h : Parts B top w a n cap bss) (hb : Below w.heap.size w w') : Parts B top w' a n cap bss := by
  obtain ⟨A, L, C, h1, h2, h3, h4⟩ := h.owns
  exact ⟨h.len, A, L, C, ownsRow_below h1 hb, fun j hj => (h2 j hj).kept hb, h3, h4⟩
theorem Parts.touched {B top lo hi : Nat} {w w' : World} {a : Option Addr} {n cap : Nat} {bss : List (List Int)} (h : Parts B top w a n cap bss) (ht : Touch lo hi w w') (hd : hi ≤ B) : Parts B top w' a n cap bss := by
  obtain ⟨A, L, C, h1, h2, h3, h4⟩ := h.owns
  exact ⟨h.len, A, L, C, owns_touch h1 ht hd, fun j hj => (h2 j hj).touched ht hd, h3, h4⟩
theorem Parts.up {B top top' : Nat} {w : World} {a : Option Addr} {n cap : Nat} {bss : List (List Int)} (h : Parts B top w a n cap bss) (ht : top ≤ top') : Parts B top' w a n cap bss := by
  obtain ⟨A, L, C, h1, h2, h3, h4⟩ := h.owns
  exact ⟨h.len, A, L, C, h1, h2, h3, fun j hj g hg => Nat.lt_of_lt_of_le (h4 j hj g hg) ht⟩
theorem parts_empty (B top : Nat) (w : World) (h : B ≤ w.heap.size) : Parts B top (w.alloc (.cells #[] 22)) (some ⟨w.heap.size, 0, none⟩) 0 0 [] :=
  ⟨rfl, fun _ => none, fun _ => 0, fun _ => 0, World.ownsRow_lit w #[] 0 h (Nat.zero_le _) rfl, fun _ hj => absurd hj (Nat.not_lt_zero _), fun _ _ _ hk => absurd hk (Nat.not_lt_zero _), fun _ hj => absurd hj (Nat.not_lt_zero _)⟩

theorem range_map_snoc (n : Nat) (f g : Nat → Value) (v : Value) (h : ∀ j, j < n → g j = f j) (hv : g n = v) : (List.range (n + 1)).map g = (List.range n).map f ++ [v] := by
  rw [List.range_succ, List.map_append]
  congr 1
  · exact List.map_congr_left fun j hj => h j (List.mem_range.1 hj)
  · simp [hv]

/-- One part more. -/
theorem parts_more {B top : Nat} {w w' : World} {a a' ap : Option Addr} {n cap cap' np cp : Nat} {bss : List (List Int)} {xs : List Int} {A : Nat → Option Addr} {L C : Nat → Nat}
    (h1 : w.ownsRow B 22 1 (.slice a n cap) n ((List.range n).map fun j => .slice (A j) (L j) (C j))) (h2 : ∀ j, j < n → Own B w (A j) (L j) (C j) (bss.getD j []))
    (h3 : ∀ j k, j < k → k < n → ∀ g g', A j = some ⟨g, 0, none⟩ → A k = some ⟨g', 0, none⟩ → g < g') (h4 : ∀ j, j < n → ∀ g, A j = some ⟨g, 0, none⟩ → g < top)
    (hp : Own top w ap np cp xs) (hB : B ≤ top) (hv : w'.ownsRow B 22 1 (.slice a' (n + 1) cap') (n + 1) (((List.range n).map fun j => .slice (A j) (L j) (C j)) ++ [.slice ap np cp]))
    (hg : w.grownBy w' (Value.slice a n cap).ownBlock) (hl : bss.length = n) : Parts B w.heap.size w' a' (n + 1) cap' (bss ++ [xs]) := by
  have hgn : ∀ j, j < n → (bss ++ [xs]).getD j [] = bss.getD j [] := by intro j hj; simp [hl, hj, List.getElem?_append_left]
  have hgl : (bss ++ [xs]).getD n [] = xs := by simp [hl]
  have hpB := hp.mono hB
  have hblk : ∀ g, ap = some ⟨g, 0, none⟩ → top ≤ g ∧ g < w.heap.size := by intro g e; subst e; exact hp.base
  refine ⟨by simp [hl], fun j => if j < n then A j else ap, fun j => if j < n then L j else np, fun j => if j < n then C j else cp, ?_, ?_, ?_, ?_⟩
  · rw [range_map_snoc n (fun j => .slice (A j) (L j) (C j)) _ (.slice ap np cp) (fun j hj => by simp [hj]) (by simp)]
    exact hv
  · intro j hj
    by_cases e : j < n
    · simp only [if_pos e]
      rw [hgn j e]
      exact ⟨(h2 j e).row.kept hg (blocks5_22 (h2 j e).row h1 (by decide)), (h2 j e).byte⟩
    · have : j = n := by omega
      subst this
      simp only [if_neg e]
      rw [hgl]
      exact ⟨hpB.row.kept hg (blocks5_22 hpB.row h1 (by decide)), hpB.byte⟩
  · intro j k hjk hk g g' hg1 hg2
    have hj : j < n := by omega
    simp only [if_pos hj] at hg1
    by_cases e : k < n
    · simp only [if_pos e] at hg2
      exact h3 j k hjk e g g' hg1 hg2
    · simp only [if_neg e] at hg2
      have := h4 j hj g hg1
      have := hblk g' hg2
      omega
  · intro j hj g hg1
    by_cases e : j < n
    · simp only [if_pos e] at hg1
      have q1 := h2 j e
      rw [hg1] at q1
      exact q1.base.2
    · simp only [if_neg e] at hg1
      exact (hblk g hg1).2

theorem Parts.rows {B top : Nat} {w : World} {a : Option Addr} {n cap : Nat} {bss : List (List Int)} (h : Parts B top w a n cap bss) : Rows2 w a n bss := by
  obtain ⟨A, L, C, h1, h2, h3, h4⟩ := h.owns
  refine ⟨h.len, fun k hk => ?_⟩
  rcases h1.2 with ⟨_, h0⟩ | ⟨g, cap', cur, hv, _, hg, _⟩
  · omega
  · have hv' := hv
    simp only [Value.slice.injEq] at hv
    obtain ⟨rfl, _, rfl⟩ := hv
    refine ⟨g, 0, rfl, (Array.getElem?_eq_some_iff.1 hg).1, A k, L k, C k, ?_, (h2 k hk).toRow, (h2 k hk).nil⟩
    rw [Nat.zero_add, h1.cellAt k (by omega)]
    simp [hk]
theorem Parts.bytes {B top : Nat} {w : World} {a : Option Addr} {n cap : Nat} {bss : List (List Int)} (h : Parts B top w a n cap bss) : ∀ p ∈ bss, AllB p := by
  obtain ⟨A, L, C, h1, h2, h3, h4⟩ := h.owns
  intro p hp
  obtain ⟨i, hi, rfl⟩ := List.getElem_of_mem hp
  have := (h2 i (by rw [← h.len]; exact hi)).byte
  simp [hi] at this
  exact allB_of (by simpa using this)

set_option maxHeartbeats 1000000 in
theorem drawHashAll_any (a : Option Addr) (n cap : Nat) (bs : List Int) (w : World) (h : Row w a n bs) (hn : n ≤ 1000000000) :
    Calls Try.prog 19 #[.slice a n cap] w fun e w' => ∃ (B : Nat) (a' : Option Addr) (m c : Nat) (bss : List (List Int)), e = .returned (.slice a' m c) ∧ m ≤ 6 ∧ total bss ≤ 60 ∧ w.heap.size ≤ B ∧ Parts B w'.heap.size w' a' m c bss ∧ Below w.heap.size w w' := by
  obtain ⟨i0, hi, hz0, hz1, hz2⟩ := info_parts Try.info22'
  have H : Hid (Row w a n bs) := h
  clear h
  go_enter Try.func19, Try.ntmps19
  go_wp2_with fail
  refine (open_any a n cap bs _ H.out hn).mono ?_
  rintro e w1 ⟨rfl, hr1, hb1⟩
  have g1 := hr1.lt
  have hp0 : RdPost w1 w.heap.size a n cap bs w1 := ⟨hr1, Touch.same _ _ _⟩
  have hpa := hp0.alloc (.cells #[] 22)
  go_wp2_with fail
  refine (below_any _ a n cap bs 6 _ hpa.1 (by decide)).mono ?_
  rintro e w2 ⟨v, rfl, hv0, hv1, hp2⟩
  obtain ⟨u, rfl⟩ := Int.eq_ofNat_of_zero_le hv0
  have hu6 : u ≤ 6 := by omega
  have hpb := hpa.step hp2
  have hpe : Parts w1.heap.size w1.heap.size w2 (some ⟨w1.heap.size, 0, none⟩) 0 0 [] := (parts_empty w1.heap.size w1.heap.size w1 (Nat.le_refl _)).touched hp2.2 (by omega)
  have hs2 := hpb.2.size
  clear hpa hp2 hp0
  go_wp2
  go_loopw [4, 6] (fun o i wr => ∃ (k c : Nat) (ao : Option Addr) (bss : List (List Int)), k ≤ u ∧ i = .int .i64 k ∧ o = .slice ao k c ∧ total bss ≤ 9 * k ∧ Parts w1.heap.size wr.heap.size wr ao k c bss ∧ RdPost w1 w.heap.size a n cap bs wr) (fun _ i _ => u - (intOf i).toNat)
  case atStart => exact ⟨0, 0, _, [], Nat.zero_le _, rfl, rfl, by simp [total], hpe.up hs2, hpb⟩
  case round =>
    obtain ⟨k, c, ao, bss, hk, rfl, rfl, htot, hpr, hrd⟩ := hrel
    have hsr := hrd.2.size
    by_cases hlt : k < u
    · go_wp2_with fail
      refine (bytes_any _ a n cap bs 9 _ hrd.1 (by decide) (by decide)).mono ?_
      rintro e w3 ⟨a3, k3, c3, xs, rfl, hk3, ho3, hp3⟩
      have hs3 := hp3.2.size
      have hpr3 := hpr.touched hp3.2 (by omega)
      have hrd3 := hrd.step hp3
      have hbl : Below w3.heap.size w3 (w3.alloc (.cells #[.slice a3 k3 c3] 22)) := (Below.refl _ _).alloc (Nat.le_refl _) _
      have hpr4 := hpr3.kept hbl
      obtain ⟨A, L, C, q1, q2, q3, q4⟩ := hpr4.owns
      have hlen := hpr.len
      have HLn : Hid (bss.length = k) := hlen
      have htn : Hid (total (bss ++ [xs]) ≤ 9 * (k + 1)) := by
        show _ ≤ _
        have h1 : total (bss ++ [xs]) = total bss + xs.length := by simp [total]
        have h2 := ho3.length
        omega
      have ho4 := ho3.kept hbl
      clear hpr hpr3 hpr4 hlen
      go_wp2_with (at_builtin; refine wpList_append_own _ rfl _ _ 36 rfl w1.heap.size 22 i0 (.slice none 0 0) 1 24 Try.underlying36 hi hz0 hz1 hz2 rfl (by decide) _ _ _ rfl q1 ⟨w3.heap.size, 0, none⟩ 1 1 [.slice a3 k3 c3] rfl rfl (cell_one_new _ _ _) (by intro x hx; simp only [List.mem_cons, List.not_mem_nil, or_false] at hx; subst hx; rfl) (by unfold maxLen; omega) (by omega) (by simp; omega) ?_; intro v' w5 hown' hgrow' _)
      obtain ⟨a5, c5, rfl⟩ : ∃ a5 c5, v' = .slice a5 (k + 1) c5 := by
        rcases hown'.2 with ⟨rfl, h0⟩ | ⟨g, cap', cur, rfl, _⟩
        · omega
        · exact ⟨_, _, rfl⟩
      have hP := parts_more q1 q2 q3 q4 ho4 (by omega) hown' hgrow' HLn.out
      have hT : Touch w1.heap.size (w3.heap.size + 1) (w3.alloc (.cells #[.slice a3 k3 c3] 22)) w5 := touch_grown hgrow' (fun k hk => by have := (q1.lt k hk); simp at this; omega)
      have hrd5 := (hrd3.alloc (.cells #[.slice a3 k3 c3] 22)).grown hT (by omega) (by omega)
      have hs5 := hgrow'.size
      go_roundw
      case rel => exact ⟨k + 1, c5, a5, bss ++ [xs], by omega, by go_num, rfl, htn.out, hP.up hs5, hrd5⟩
      case measure => simp [intOf]; omega
    · have hku : k = u := by omega
      subst hku
      go_wp2
      go_ret
      exact ⟨_, _, _, _, bss, rfl, hu6, by omega, hb1.size, hpr, hrd.below hb1⟩

end Go.Proofs.Ytmmdklaajejeiaa
