import Derived.Test.YtambgfmipfmkdaaGreatMHa
namespace Go.Proofs.YtambgfmipfmkdaaGreat
open Go.RowKit

set_option maxRecDepth 10000 in
set_option maxHeartbeats 1000000 in
theorem indexU_any (a : Option Addr) (n c : Nat) (zs : List Int) (x : Int) (w : World) (h : RowU w a n zs) (hn : n ≤ 9223372036854775807) :
    Calls Tryz.prog 77 #[.slice a n c, .int .u64 x] w fun e w' => ∃ i : Int, e = .returned (.int .i64 i) ∧ Hid (0 ≤ i ↔ x ∈ zs) ∧ w' = w := by
  have H0 : Hid (RowU w a n zs) := h
  have HL : Hid (zs.length = n) := h.len
  clear h
  go_enter Tryz.func77, Tryz.ntmps77
  go_wp2
  go_loopw [8] (fun i wr => ∃ k : Nat, k ≤ n ∧ i = .int .i64 k ∧ Hid (x ∉ zs.take k) ∧ w = wr) (fun i _ => n - (intOf i).toNat)
  case atStart => exact ⟨0, Nat.zero_le _, rfl, (by show _ ∉ _; simp), rfl⟩
  case round =>
    obtain ⟨k, hk, rfl, HA, rfl⟩ := hrel
    by_cases hlt : k < n
    · obtain ⟨b, off, rfl, hb, hc⟩ := H0.out.get k hlt
      obtain ⟨z, hz⟩ : ∃ z, z = zs.getD k 0 := ⟨_, rfl⟩
      rw [← hz] at hc
      have HZ : Hid (z = zs.getD k 0) := hz
      have HM : Hid (k < zs.length) := by show _ < _; rw [HL.out]; exact hlt
      have hlti : (k : Int) < (n : Int) := by omega
      clear hz
      by_cases he : x = z
      · have HT : Hid (x ∈ zs) := by show _ ∈ _; rw [he, HZ.out]; exact getD_mem zs k HM.out
        have ze : (x == z) = true := beq_iff_eq.2 he
        clear he
        go_wp2
        go_ret
        exact ⟨_, rfl, ⟨fun _ => HT.out, fun _ => by omega⟩, rfl⟩
      · have HN : Hid (x ∉ zs.take (k + 1)) := by
          show _ ∉ _
          rw [mem_next zs k HM.out]
          rintro (h | h)
          · exact HA.out h
          · exact he (by rw [HZ.out]; exact h)
        have ze : (x == z) = false := beq_false_of_ne he
        clear he HA
        go_wp2
        go_roundw
        case rel => exact ⟨k + 1, by omega, by go_num, HN, by trivial⟩
        case measure => simp [intOf]; omega
    · obtain rfl : k = n := by omega
      have HN : Hid (x ∉ zs) := by show _ ∉ _; have := HA.out; rwa [mem_all zs k (by rw [HL.out]; exact Nat.le_refl _)] at this
      go_wp2
      go_ret
      exact ⟨_, rfl, ⟨fun h => absurd h (by decide), fun h => absurd h HN.out⟩, rfl⟩

set_option maxRecDepth 10000 in
set_option maxHeartbeats 1000000 in
theorem containsU_any (a : Option Addr) (n c : Nat) (zs : List Int) (x : Int) (w : World) (h : RowU w a n zs) (hn : n ≤ 9223372036854775807) :
    Calls Tryz.prog 53 #[.slice a n c, .int .u64 x] w fun e w' => e = .returned (.bool (decide (x ∈ zs))) ∧ w' = w := by
  have H0 : Hid (RowU w a n zs) := h
  clear h
  go_enter Tryz.func53, Tryz.ntmps53
  go_wp2_with fail
  refine (indexU_any a n c zs x _ H0.out hn).mono ?_
  rintro e w1 ⟨i, rfl, hi, rfl⟩
  have HD : Hid (decide (0 ≤ i) = decide (x ∈ zs)) := by show _ = _; exact decide_eq_decide.2 hi.out
  go_wp2
  go_ret
  exact ⟨by rw [← HD.out]; rfl, rfl⟩

set_option maxRecDepth 10000 in
set_option maxHeartbeats 1000000 in
theorem l11Has_any (a : Option Addr) (n c : Nat) (zs : List Int) (x : Int) (w : World) (h : RowU w a n zs) (hn : n ≤ 9223372036854775807) :
    Calls Tryz.prog 21 #[.slice a n c, .int .u64 x] w fun e w' => e = .returned (.bool (decide (x ∈ zs))) ∧ w' = w := by
  have H0 : Hid (RowU w a n zs) := h
  have HL : Hid (zs.length = n) := h.len
  clear h
  go_enter Tryz.func21, Tryz.ntmps21
  go_wp2
  go_loopw [5] (fun i wr => ∃ k : Nat, k ≤ n ∧ i = .int .i64 k ∧ Hid (x ∉ zs.take k) ∧ w = wr) (fun i _ => n - (intOf i).toNat)
  case atStart => exact ⟨0, Nat.zero_le _, rfl, (by show _ ∉ _; simp), rfl⟩
  case round =>
    obtain ⟨k, hk, rfl, HA, rfl⟩ := hrel
    by_cases hlt : k < n
    · obtain ⟨b, off, rfl, hb, hc⟩ := H0.out.get k hlt
      obtain ⟨z, hz⟩ : ∃ z, z = zs.getD k 0 := ⟨_, rfl⟩
      rw [← hz] at hc
      have HZ : Hid (z = zs.getD k 0) := hz
      have HM : Hid (k < zs.length) := by show _ < _; rw [HL.out]; exact hlt
      have hlti : (k : Int) < (n : Int) := by omega
      clear hz
      by_cases he : z = x
      · have HT : Hid (decide (x ∈ zs) = true) := decide_eq_true (by rw [← he, HZ.out]; exact getD_mem zs k HM.out)
        have ze : (z == x) = true := beq_iff_eq.2 he
        clear he
        go_wp2
        go_ret
        exact ⟨by rw [HT.out]; rfl, rfl⟩
      · have HN : Hid (x ∉ zs.take (k + 1)) := by
          show _ ∉ _
          rw [mem_next zs k HM.out]
          rintro (h | h)
          · exact HA.out h
          · exact he (by rw [HZ.out]; exact h.symm)
        have ze : (z == x) = false := beq_false_of_ne he
        clear he HA
        go_wp2
        go_roundw
        case rel => exact ⟨k + 1, by omega, by go_num, HN, by trivial⟩
        case measure => simp [intOf]; omega
    · obtain rfl : k = n := by omega
      have HN : Hid (decide (x ∈ zs) = false) := decide_eq_false (by have := HA.out; rwa [mem_all zs k (by rw [HL.out]; exact Nat.le_refl _)] at this)
      go_wp2
      go_ret
      exact ⟨by rw [HN.out]; rfl, rfl⟩

def freshP (a now age : Int) : Prop := timP a ∧ timP now ∧ a ≤ now ∧ now - a ≤ age
instance (a now age : Int) : Decidable (freshP a now age) := by unfold freshP; infer_instance

set_option maxRecDepth 10000 in
set_option maxHeartbeats 1000000 in
theorem isFresh_any (a now age : Int) (w : World) (hn : timP now) : Calls Tryz.prog 28 #[.int .i64 a, .int .i64 now, .int .i64 age] w fun e w' => e = .returned (.bool (decide (freshP a now age))) ∧ w' = w := by
  by_cases h1 : timP a
  case neg =>
    have HV : Hid (decide (freshP a now age) = false) := decide_eq_false (fun h => h1 h.1)
    have d1 := decide_eq_false h1
    clear h1
    go_enter Tryz.func28, Tryz.ntmps28
    go_wp2_with fail
    refine (isTim_any a _).mono ?_
    rintro e w1 ⟨rfl, hw⟩
    have hw2 := hw.symm
    subst hw2
    rw [d1]
    go_wp2
    go_ret
    exact ⟨by rw [HV.out]; rfl, rfl⟩
  have d1 := decide_eq_true h1
  have b1 : 0 ≤ a ∧ a ≤ 253402300799 := h1
  have b2 : 0 ≤ now ∧ now ≤ 253402300799 := hn
  by_cases h2 : a ≤ now
  · obtain ⟨q, hq⟩ : ∃ q, q = decide (now - a ≤ age) := ⟨_, rfl⟩
    have HV : Hid (decide (freshP a now age) = q) := by show _ = _; rw [hq]; exact decide_eq_decide.2 ⟨fun h => h.2.2.2, fun h => ⟨h1, hn, h2, h⟩⟩
    clear h1 hn
    go_enter Tryz.func28, Tryz.ntmps28
    go_wp2_with fail
    refine (isTim_any a _).mono ?_
    rintro e w1 ⟨rfl, hw⟩
    have hw2 := hw.symm
    subst hw2
    rw [d1]
    clear d1
    go_wp2
    go_ret
    exact ⟨by rw [HV.out, hq]; rfl, rfl⟩
  · have HV : Hid (decide (freshP a now age) = false) := decide_eq_false (fun h => h2 h.2.2.1)
    clear h1 hn
    go_enter Tryz.func28, Tryz.ntmps28
    go_wp2_with fail
    refine (isTim_any a _).mono ?_
    rintro e w1 ⟨rfl, hw⟩
    have hw2 := hw.symm
    subst hw2
    rw [d1]
    clear d1
    have d2 : decide (a ≤ now) = false := decide_eq_false (by omega)
    go_wp2
    go_ret
    exact ⟨by rw [HV.out]; first | rfl | (rw [d2]; rfl), rfl⟩

set_option maxRecDepth 10000 in
set_option maxHeartbeats 1000000 in
theorem l16Fresh_any (a now age : Int) (w : World) : Calls Tryz.prog 19 #[.int .i64 a, .int .i64 now, .int .i64 age] w fun e w' => e = .returned (.bool (decide (freshP a now age))) ∧ w' = w := by
  by_cases h2 : a ≤ now
  case neg =>
    have HV : Hid (decide (freshP a now age) = false) := decide_eq_false (fun h => h2 h.2.2.1)
    go_enter Tryz.func19, Tryz.ntmps19
    go_wp2
    go_ret
    exact ⟨by rw [HV.out]; rfl, rfl⟩
  by_cases h3 : wrap64 (now - a) ≤ age
  case neg =>
    have HV : Hid (decide (freshP a now age) = false) := decide_eq_false (fun h => h3 (by
      have b1 : 0 ≤ a ∧ a ≤ 253402300799 := h.1
      have b2 : 0 ≤ now ∧ now ≤ 253402300799 := h.2.1
      have e : wrap64 (now - a) = now - a := by unfold wrap64; omega
      rw [e]; exact h.2.2.2))
    go_enter Tryz.func19, Tryz.ntmps19
    go_wp2
    go_ret
    exact ⟨by rw [HV.out]; rfl, rfl⟩
  by_cases h1 : timP a
  case neg =>
    have HV : Hid (decide (freshP a now age) = false) := decide_eq_false (fun h => h1 h.1)
    have d1 := decide_eq_false h1
    clear h1
    go_enter Tryz.func19, Tryz.ntmps19
    go_wp2_with fail
    refine (l10Tim_any a _).mono ?_
    rintro e w1 ⟨rfl, hw⟩
    have hw2 := hw.symm
    subst hw2
    rw [d1]
    go_wp2
    go_ret
    exact ⟨by rw [HV.out]; rfl, rfl⟩
  have d1 := decide_eq_true h1
  obtain ⟨q, hq⟩ : ∃ q, q = decide (timP now) := ⟨_, rfl⟩
  have HQ : Hid (decide (timP now) = q) := hq.symm
  have HV : Hid (decide (freshP a now age) = q) := by
    show _ = _
    rw [hq]
    refine decide_eq_decide.2 ⟨fun h => h.2.1, fun h => ⟨h1, h, h2, ?_⟩⟩
    have b1 : 0 ≤ a ∧ a ≤ 253402300799 := h1
    have b2 : 0 ≤ now ∧ now ≤ 253402300799 := h
    have e : wrap64 (now - a) = now - a := by unfold wrap64; omega
    rw [← e]; exact h3
  clear h1 hq
  go_enter Tryz.func19, Tryz.ntmps19
  go_wp2_with fail
  refine (l10Tim_any a _).mono ?_
  rintro e w1 ⟨rfl, hw⟩
  have hw2 := hw.symm
  subst hw2
  rw [d1]
  go_wp2_with fail
  refine (l10Tim_any now _).mono ?_
  rintro e w1 ⟨rfl, hw⟩
  have hw2 := hw.symm
  subst hw2
  rw [HQ.out]
  go_wp2
  go_ret
  exact ⟨by rw [HV.out]; rfl, rfl⟩

/-- What a witness signs of a head at a time. -/
def l7Of (x : HP) (at7 : Int) : List Int := (enc 12 (hdI 7 x.lg x.sz x.rt at7)).getD []
theorem l7Of_enc (x : HP) (at7 : Int) : enc 12 (hdI 7 x.lg x.sz x.rt at7) = some (l7Of x at7) ∧ (l7Of x at7).length ≤ 1000 := by
  obtain ⟨l, h1, h2⟩ := hdI_enc 7 x.lg x.sz x.rt at7 (by decide) (by decide)
  unfold l7Of
  rw [h1]
  exact ⟨rfl, h2⟩
def kidP (p : Int × Int × Int) : Int := kidN p.1 p.2.1 p.2.2
def vfB (x : HP) (p : Int × Int × Int) (c : CgP) : Bool := decide (anyP p.1 p.2.1 p.2.2 (l7Of x c.at2) c.sg)
/-- Whether a witness signs by this one. -/
def wsB (x : HP) (now age : Int) (p : Int × Int × Int) (c : CgP) : Bool := decide (c.key = kidP p) && decide (freshP c.at2 now age) && vfB x p c
def anyB (x : HP) (now age : Int) (cs : List CgP) (p : Int × Int × Int) : Bool := cs.any (wsB x now age p)
/-- The witnesses that count, by one more. -/
def stepC (x : HP) (now age : Int) (cs : List CgP) (acc : List Int) (p : Int × Int × Int) : List Int := if kidP p ∈ acc then acc else if anyB x now age cs p then acc ++ [kidP p] else acc
def cntL (x : HP) (now age : Int) (cs : List CgP) (ps : List (Int × Int × Int)) : List Int := ps.foldl (stepC x now age cs) []
theorem cntL_next (x : HP) (now age : Int) (cs : List CgP) (ps : List (Int × Int × Int)) (k : Nat) (h : k < ps.length) : cntL x now age cs (ps.take (k + 1)) = stepC x now age cs (cntL x now age cs (ps.take k)) (ps.getD k (0, 0, 0)) := by
  unfold cntL
  have e : ps.getD k (0, 0, 0) = ps[k] := by simp [h]
  rw [List.take_succ_eq_append_getElem h, List.foldl_append, e]
  rfl
/-- What HeadCheck tells. -/
def hcV (s : Bool) (x : HP) (cs : List CgP) (ps : List (Int × Int × Int)) (least now age : Int) : Int :=
  if s = false then 1 else if freshP x.at2 now age then (if 20 < cs.length ∨ 20 < ps.length then 3 else if ((cntL x now age cs ps).length : Int) < least then 3 else 0) else 2

end Go.Proofs.YtambgfmipfmkdaaGreat

namespace Go.Proofs.YtambgfmipfmkdaaGreat
open Go.RowKit

/-- What the closure sees. -/
structure WitB (w : World) (gk gn ga gp gh : Nat) (x : HP) (xa : Option Addr) (xn xc : Nat) (now age : Int) (p : Int × Int × Int) : Prop where
  lt : gk < w.heap.size ∧ gn < w.heap.size ∧ ga < w.heap.size ∧ gp < w.heap.size ∧ gh < w.heap.size
  k0 : w.cell? ⟨gk, 0, none⟩ = some (.int .u64 (kidP p))
  n0 : w.cell? ⟨gn, 0, none⟩ = some (.int .i64 now)
  a0 : w.cell? ⟨ga, 0, none⟩ = some (.int .i64 age)
  p0 : w.cell? ⟨gp, 0, none⟩ = some (.int .i64 p.1)
  p1 : w.cell? ⟨gp, 1, none⟩ = some (.int .u64 p.2.1)
  p2 : w.cell? ⟨gp, 2, none⟩ = some (.int .i64 p.2.2)
  h0 : w.cell? ⟨gh, 0, none⟩ = some (.int .i64 x.lg)
  h1 : w.cell? ⟨gh, 1, none⟩ = some (.int .i64 x.sz)
  h2 : w.cell? ⟨gh, 2, none⟩ = some (.int .u64 x.rt)
  h3 : w.cell? ⟨gh, 3, none⟩ = some (.int .i64 x.at2)
  h4 : w.cell? ⟨gh, 4, none⟩ = some (.slice xa xn xc)
theorem WitB.kept {w w' : World} {gk gn ga gp gh : Nat} {x : HP} {xa : Option Addr} {xn xc : Nat} {now age : Int} {p : Int × Int × Int} (h : WitB w gk gn ga gp gh x xa xn xc now age p) (hb : Below w.heap.size w w') : WitB w' gk gn ga gp gh x xa xn xc now age p := by
  obtain ⟨l1, l2, l3, l4, l5⟩ := h.lt
  have hs := hb.size
  exact ⟨⟨by omega, by omega, by omega, by omega, by omega⟩, (hb.cell (p := ⟨gk, 0, none⟩) l1).trans h.k0, (hb.cell (p := ⟨gn, 0, none⟩) l2).trans h.n0, (hb.cell (p := ⟨ga, 0, none⟩) l3).trans h.a0, (hb.cell (p := ⟨gp, 0, none⟩) l4).trans h.p0, (hb.cell (p := ⟨gp, 1, none⟩) l4).trans h.p1, (hb.cell (p := ⟨gp, 2, none⟩) l4).trans h.p2, (hb.cell (p := ⟨gh, 0, none⟩) l5).trans h.h0, (hb.cell (p := ⟨gh, 1, none⟩) l5).trans h.h1, (hb.cell (p := ⟨gh, 2, none⟩) l5).trans h.h2, (hb.cell (p := ⟨gh, 3, none⟩) l5).trans h.h3, (hb.cell (p := ⟨gh, 4, none⟩) l5).trans h.h4⟩
theorem implKeyId_agg (p : Int × Int × Int) (w : World) (hx : U64 p.2.1) (hl : p.1 ≤ 9223372036854775807) (hd : p.2.2 ≤ 9223372036854775807) :
    Calls Tryz.prog 51 #[.agg #[.int .i64 p.1, .int .u64 p.2.1, .int .i64 p.2.2]] w fun e w' => e = .returned (.int .u64 (kidP p)) ∧ Below w.heap.size w w' := implKeyId_any p.1 p.2.1 p.2.2 w hx hl hd
theorem specKeyId_agg (p : Int × Int × Int) (w : World) (hx : U64 p.2.1) (hl : p.1 ≤ 9223372036854775807) (hd : p.2.2 ≤ 9223372036854775807) :
    Calls Tryz.prog 20 #[.agg #[.int .i64 p.1, .int .u64 p.2.1, .int .i64 p.2.2]] w fun e w' => e = .returned (.int .u64 (kidP p)) ∧ Below w.heap.size w w' := specKeyId_any p.1 p.2.1 p.2.2 w hx hl hd
theorem implVerify_cg (x : HP) (p : Int × Int × Int) (c : CgP) (am : Option Addr) (m : Nat) (ag : Option Addr) (ng cg : Nat) (w : World) (hy : U64 p.2.1) (hr : Row w am (l7Of x c.at2).length (l7Of x c.at2)) (hc : am = none → m = 0) (hg : Row w ag ng c.sg) (hng : ng ≤ 1048576) (hcg : ng ≤ cg) :
    Calls Tryz.prog 48 #[.agg #[.int .i64 p.1, .int .u64 p.2.1, .int .i64 p.2.2], .slice am (l7Of x c.at2).length m, .slice ag ng cg] w fun e w' => e = .returned (.bool (vfB x p c)) ∧ Below w.heap.size w w' := implVerifyAny_any p.1 p.2.1 p.2.2 am _ m (l7Of x c.at2) ag ng cg c.sg w hy hr (Nat.le_trans (l7Of_enc x c.at2).2 (by decide)) hc hg hng hcg
theorem specVerify_cg (x : HP) (p : Int × Int × Int) (c : CgP) (am : Option Addr) (m : Nat) (ag : Option Addr) (ng cg : Nat) (w : World) (hy : U64 p.2.1) (hr : Row w am (l7Of x c.at2).length (l7Of x c.at2)) (hc : am = none → m = 0) (hg : Row w ag ng c.sg) (hng : ng ≤ 1048576) (hcg : ng ≤ cg) :
    Calls Tryz.prog 22 #[.agg #[.int .i64 p.1, .int .u64 p.2.1, .int .i64 p.2.2], .slice am (l7Of x c.at2).length m, .slice ag ng cg] w fun e w' => e = .returned (.bool (vfB x p c)) ∧ Below w.heap.size w w' := specVerifyAny_any p.1 p.2.1 p.2.2 am _ m (l7Of x c.at2) ag ng cg c.sg w hy hr (Nat.le_trans (l7Of_enc x c.at2).2 (by decide)) hc hg hng hcg
/-- The head's numbers are small. -/
def HpB (x : HP) : Prop := (1 ≤ x.lg ∧ x.lg ≤ 1000) ∧ (0 ≤ x.sz ∧ x.sz ≤ 200) ∧ 0 ≤ x.rt ∧ x.rt ≤ 18446744073709551615

set_option maxRecDepth 10000 in
set_option maxHeartbeats 8000000 in
theorem witClosure_any (gk gn ga gp gh : Nat) (x : HP) (xa : Option Addr) (xn xc : Nat) (now age : Int) (p : Int × Int × Int) (c : CgP) (a : Option Addr) (n cc : Nat) (w : World) (hB : WitB w gk gn ga gp gh x xa xn xc now age p) (hX : HpB x) (hn : timP now) (hy : U64 p.2.1) (hr : Row w a n c.sg) (hng : n ≤ 1048576) (hcg : n ≤ cc) :
    Calls Tryz.prog 52 #[.agg #[.int .u64 c.key, .int .i64 c.at2, .slice a n cc], .pointer (some ⟨gk, 0, none⟩), .pointer (some ⟨gn, 0, none⟩), .pointer (some ⟨ga, 0, none⟩), .pointer (some ⟨gp, 0, none⟩), .pointer (some ⟨gh, 0, none⟩)] w fun e w' => e = .returned (.bool (wsB x now age p c)) ∧ Below w.heap.size w w' := by
  obtain ⟨wb, hwb⟩ : ∃ wb, wb = w.alloc (.cells #[.int .u64 c.key, .int .i64 c.at2, .slice a n cc] 55) := ⟨_, rfl⟩
  have hbb : Below w.heap.size w wb := by rw [hwb]; exact (Below.refl _ _).alloc (Nat.le_refl _) _
  have hblk : wb.heap[w.heap.size]? = some (.cells #[.int .u64 c.key, .int .i64 c.at2, .slice a n cc] 55 (0, 0)) := by rw [hwb]; exact heap_alloc_new w _
  have hlt : w.heap.size < wb.heap.size := (Array.getElem?_eq_some_iff.1 hblk).1
  have HB0 : Hid (WitB wb gk gn ga gp gh x xa xn xc now age p) := hB.kept hbb
  have HR : Hid (Row wb a n c.sg) := hr.kept hbb
  have HBB : Hid (Below w.heap.size w wb) := hbb
  have HC : Hid (∀ W, Below wb.heap.size wb W → W.cell? ⟨gk, 0, none⟩ = some (.int .u64 (kidP p)) ∧ W.cell? ⟨gn, 0, none⟩ = some (.int .i64 now) ∧ W.cell? ⟨ga, 0, none⟩ = some (.int .i64 age) ∧ W.cell? ⟨gp, 0, none⟩ = some (.int .i64 p.1) ∧ W.cell? ⟨gp, 1, none⟩ = some (.int .u64 p.2.1) ∧ W.cell? ⟨gp, 2, none⟩ = some (.int .i64 p.2.2) ∧ W.cell? ⟨gh, 0, none⟩ = some (.int .i64 x.lg) ∧ W.cell? ⟨gh, 1, none⟩ = some (.int .i64 x.sz) ∧ W.cell? ⟨gh, 2, none⟩ = some (.int .u64 x.rt) ∧ W.cell? ⟨gh, 3, none⟩ = some (.int .i64 x.at2) ∧ W.cell? ⟨gh, 4, none⟩ = some (.slice xa xn xc) ∧ W.cell? ⟨w.heap.size, 0, none⟩ = some (.int .u64 c.key) ∧ W.cell? ⟨w.heap.size, 1, none⟩ = some (.int .i64 c.at2) ∧ W.cell? ⟨w.heap.size, 2, none⟩ = some (.slice a n cc)) := by
    intro W hW
    have b := (hW.block _ hlt).trans hblk
    have q := HB0.out.kept hW
    exact ⟨q.k0, q.n0, q.a0, q.p0, q.p1, q.p2, q.h0, q.h1, q.h2, q.h3, q.h4, (cell_of_row _ _ 0 _ 55 (0, 0) b).trans rfl, (cell_of_row _ _ 1 _ 55 (0, 0) b).trans rfl, (cell_of_row _ _ 2 _ 55 (0, 0) b).trans rfl⟩
  clear hbb hblk hB hr
  by_cases c1 : c.key = kidP p
  case neg =>
    have HV : Hid (wsB x now age p c = false) := by show _ = _; unfold wsB; rw [decide_eq_false c1]; rfl
    have d1 : (c.key == kidP p) = false := by simp [c1]
    obtain ⟨q0, q1, q2, q3, q4, q5, q6, q7, q8, q9, q10, q11, q12, q13⟩ := HC.out wb (Below.refl _ _)
    have r0 := cell_regrown q0
    have r1 := cell_regrown q1
    have r2 := cell_regrown q2
    have r3 := cell_regrown q3
    have r4 := cell_regrown q4
    have r5 := cell_regrown q5
    have r6 := cell_regrown q6
    have r7 := cell_regrown q7
    have r8 := cell_regrown q8
    have r9 := cell_regrown q9
    have r10 := cell_regrown q10
    have r11 := cell_regrown q11
    have r12 := cell_regrown q12
    have r13 := cell_regrown q13
    clear q0 q1 q2 q3 q4 q5 q6 q7 q8 q9 q10 q11 q12 q13
    go_enter Tryz.func52, Tryz.ntmps52
    go_upto_region 1 with fail
    rw [← hwb]
    clear hwb
    refine wp_region_quiet_below (by kernel_rfl) (by kernel_rfl) ?_
    go_big_quiet_step (fail)
    go_big_quiet_step (fail)
    go_big_quiet_step (fail)
    go_big_quiet_step (fail)
    go_big_quiet_step (fail)
    go_big_quiet_step (fail)
    go_big_quiet_step (fail)
    go_big_quiet_step (fail)
    go_big_quiet_step (fail)
    go_big_quiet_step (fail)
    go_big_quiet_step (fail)
    go_big_quiet_step (fail)
    go_big_quiet_step (fail)
    go_big_quiet_step (fail)
    go_big_quiet_step (fail)
    go_big_quiet_step (fail)
    go_big_quiet_step (fail)
    go_big_quiet_step (fail)
    go_big_quiet_step (fail)
    go_big_quiet_step (fail)
    go_big_quiet_step (fail)
    go_big_quiet_step (fail)
    refine wpQuiet_nil ?_
    intro _ hw'
    obtain ⟨⟨dq, osq⟩, hw3⟩ := hw'
    subst hw3
    have hfin := keepT HBB.out (below_regrown wb dq osq)
    go_wp2_with fail
    go_ret
    exact ⟨by rw [HV.out]; rfl, hfin⟩
  have d1 : (c.key == kidP p) = true := by simp [c1]
  by_cases c2 : freshP c.at2 now age
  case neg =>
    have HV : Hid (wsB x now age p c = false) := by show _ = _; unfold wsB; rw [decide_eq_false c2]; simp
    have d2 := decide_eq_false c2
    have ca : Hid (∀ d os, Calls Tryz.prog 28 #[.int .i64 c.at2, .int .i64 now, .int .i64 age] (Go.Sort.grow (redrawn wb d) os) fun e w'' => e = .returned (.bool false) ∧ ∃ p : Regrown, w'' = Go.Sort.grow (redrawn wb p.d) p.os) := fun d os => Calls.regrown_of (by have h := isFresh_any c.at2 now age (Go.Sort.grow (redrawn wb d) os) hn; rw [d2] at h; exact h.mono (fun e w1 ⟨he, hw⟩ => ⟨he, by rw [hw]; exact Below.refl _ _⟩))
    clear c1 c2
    obtain ⟨q0, q1, q2, q3, q4, q5, q6, q7, q8, q9, q10, q11, q12, q13⟩ := HC.out wb (Below.refl _ _)
    have r0 := cell_regrown q0
    have r1 := cell_regrown q1
    have r2 := cell_regrown q2
    have r3 := cell_regrown q3
    have r4 := cell_regrown q4
    have r5 := cell_regrown q5
    have r6 := cell_regrown q6
    have r7 := cell_regrown q7
    have r8 := cell_regrown q8
    have r9 := cell_regrown q9
    have r10 := cell_regrown q10
    have r11 := cell_regrown q11
    have r12 := cell_regrown q12
    have r13 := cell_regrown q13
    clear q0 q1 q2 q3 q4 q5 q6 q7 q8 q9 q10 q11 q12 q13
    go_enter Tryz.func52, Tryz.ntmps52
    go_upto_region 1 with fail
    rw [← hwb]
    clear hwb
    refine wp_region_quiet_below (by kernel_rfl) (by kernel_rfl) ?_
    go_big_quiet_step (fail)
    go_big_quiet_step (fail)
    go_big_quiet_step (fail)
    go_big_quiet_step (fail)
    go_big_quiet_step (fail)
    go_big_quiet_step (fail)
    go_big_quiet_step (fail)
    go_big_quiet_step (fail)
    go_big_quiet_step (fail)
    go_big_quiet_step (exact ca.out _ _)
    go_big_quiet_step (fail)
    go_big_quiet_step (fail)
    go_big_quiet_step (fail)
    go_big_quiet_step (fail)
    go_big_quiet_step (fail)
    go_big_quiet_step (fail)
    go_big_quiet_step (fail)
    go_big_quiet_step (fail)
    go_big_quiet_step (fail)
    go_big_quiet_step (fail)
    go_big_quiet_step (fail)
    go_big_quiet_step (fail)
    refine wpQuiet_nil ?_
    intro _ hw'
    obtain ⟨⟨dq, osq⟩, hw3⟩ := hw'
    subst hw3
    have hfin := keepT HBB.out (below_regrown wb dq osq)
    go_wp2_with fail
    go_ret
    exact ⟨by rw [HV.out]; rfl, hfin⟩
  have d2 := decide_eq_true c2
  have hat : 0 ≤ c.at2 ∧ c.at2 ≤ 253402300799 := c2.1
  obtain ⟨q, hq⟩ : ∃ q, q = vfB x p c := ⟨_, rfl⟩
  have HQ : Hid (vfB x p c = q) := hq.symm
  have HV : Hid (wsB x now age p c = q) := by show _ = _; unfold wsB; rw [decide_eq_true c1, d2, hq]; simp
  obtain ⟨hb1, hb2x, hb3x⟩ := hX
  have HL7 : Hid (enc 12 (hdI 7 x.lg x.sz x.rt c.at2) = some (l7Of x c.at2)) := (l7Of_enc x c.at2).1
  clear hq c1 c2
  go_enter Tryz.func52, Tryz.ntmps52
  go_upto_region 1 with fail
  rw [← hwb]
  clear hwb
  have hcur : Below wb.heap.size wb wb.drew := (Below.refl _ _).drew
  have SS0 := HC.out _ hcur
  go_region_held3 (fun W => W.cell? ⟨gk, 0, none⟩ = some (.int .u64 (kidP p)) ∧ W.cell? ⟨gn, 0, none⟩ = some (.int .i64 now) ∧ W.cell? ⟨ga, 0, none⟩ = some (.int .i64 age) ∧ W.cell? ⟨gp, 0, none⟩ = some (.int .i64 p.1) ∧ W.cell? ⟨gp, 1, none⟩ = some (.int .u64 p.2.1) ∧ W.cell? ⟨gp, 2, none⟩ = some (.int .i64 p.2.2) ∧ W.cell? ⟨gh, 0, none⟩ = some (.int .i64 x.lg) ∧ W.cell? ⟨gh, 1, none⟩ = some (.int .i64 x.sz) ∧ W.cell? ⟨gh, 2, none⟩ = some (.int .u64 x.rt) ∧ W.cell? ⟨gh, 3, none⟩ = some (.int .i64 x.at2) ∧ W.cell? ⟨gh, 4, none⟩ = some (.slice xa xn xc) ∧ W.cell? ⟨w.heap.size, 0, none⟩ = some (.int .u64 c.key) ∧ W.cell? ⟨w.heap.size, 1, none⟩ = some (.int .i64 c.at2) ∧ W.cell? ⟨w.heap.size, 2, none⟩ = some (.slice a n cc)) (first | assumption | exact SS0 | exact SSz | exact SS2 | exact SS3)
    (first
      | (go_at_call 28; ((with_reducible refine (isFresh_any c.at2 now age wb.drew hn).mono ?_); rw [d2]; rintro e wz ⟨rfl, hz⟩; have B0 : Below wb.heap.size wb wz := (by rw [hz]; exact hcur); have SSz := HC.out _ B0; clear hz))
      | (go_at_call 49; ((with_reducible refine (headBody_agg 7 x.lg x.sz x.rt c.at2 x.at2 xa xn xc (l7Of x c.at2) wz (by omega) (by omega) hb3x (by omega) HL7.out).mono ?_); rintro e w2 ⟨a2, c2, rfl, ho2, hb2⟩; have B2 : Below wb.heap.size wb w2 := keepT B0 hb2; have SS2 := HC.out _ B2; have R2 : Hid (Row w2 a2 (l7Of x c.at2).length (l7Of x c.at2)) := ho2.toRow; have hn2 : a2 = none → c2 = 0 := ho2.nil; clear ho2))
      | (go_at_call 48; ((with_reducible refine (implVerify_cg x p c a2 c2 a n cc w2 hy R2.out hn2 (HR.out.kept B2) hng hcg).mono ?_); rw [HQ.out]; rintro e w3 ⟨rfl, hb3⟩; have B3 : Below wb.heap.size wb w3 := keepT B2 hb3; have SS3 := HC.out _ B3; have HB3 : Hid (Below w.heap.size w w3) := keepT HBB.out B3)))
  all_goals (
    go_wp2_with fail
    go_ret
    exact ⟨by rw [HV.out]; rfl, HB3.out⟩)

set_option maxRecDepth 10000 in
set_option maxHeartbeats 4000000 in
theorem indexWit_any (gk gn ga gp gh : Nat) (x : HP) (xa : Option Addr) (xn xc : Nat) (now age : Int) (p : Int × Int × Int) (cs : List CgP) (a : Option Addr) (n c : Nat) (w : World) (hB : WitB w gk gn ga gp gh x xa xn xc now age p) (hX : HpB x) (hn : timP now) (hy : U64 p.2.1) (h : Cgs (fun n c => n ≤ c ∧ n ≤ 1048576) w a n cs) :
    Calls Tryz.prog 78 #[.slice a n c, .func (Fn.func 52) #[] #[.pointer (some ⟨gk, 0, none⟩), .pointer (some ⟨gn, 0, none⟩), .pointer (some ⟨ga, 0, none⟩), .pointer (some ⟨gp, 0, none⟩), .pointer (some ⟨gh, 0, none⟩)]] w fun e w' => ∃ i : Int, e = .returned (.int .i64 i) ∧ Hid (0 ≤ i ↔ anyB x now age cs p = true) ∧ Below w.heap.size w w' := by
  have H0 : Hid (Cgs (fun n c => n ≤ c ∧ n ≤ 1048576) w a n cs) := h
  have HL : Hid (cs.length = n) := h.len
  have HB : Hid (WitB w gk gn ga gp gh x xa xn xc now age p) := hB
  have hmx := h.max
  clear h hB
  go_enter Tryz.func78, Tryz.ntmps78
  go_wp2
  go_loopw [8] (fun i wr => ∃ k : Nat, k ≤ n ∧ i = .int .i64 k ∧ Hid (∀ j, j < k → wsB x now age p (cs.getD j default) = false) ∧ Below w.heap.size w wr) (fun i _ => n - (intOf i).toNat)
  case atStart => exact ⟨0, Nat.zero_le _, rfl, fun k hk => absurd hk (Nat.not_lt_zero _), Below.refl _ _⟩
  case round =>
    obtain ⟨k, hk, rfl, HN, hbr⟩ := hrel
    by_cases hlt : k < n
    · obtain ⟨b, off, a1, n1, c1, rfl, hb, hc, hrow, hm, hu, hK⟩ := (H0.out.kept hbr).get k hlt
      obtain ⟨q, hq⟩ : ∃ q, q = cs.getD k default := ⟨_, rfl⟩
      rw [← hq] at hc hrow
      have HQ : Hid (cs.getD k default = q) := hq.symm
      obtain ⟨x0, x1, x2⟩ := hc
      have HRW : Hid (Row wr a1 n1 q.sg) := hrow
      clear hq hrow hu
      have hlti : (k : Int) < (n : Int) := by omega
      go_wp2_with fail
      refine (witClosure_any gk gn ga gp gh x xa xn xc now age p q a1 n1 c1 _ (HB.out.kept hbr) hX hn hy HRW.out hK.2 hK.1).mono ?_
      rintro e w2 ⟨rfl, hb2⟩
      have B2 := keepT hbr hb2
      clear x0 x1 x2
      cases hs : wsB x now age p q with
      | true =>
        have HT : Hid (anyB x now age cs p = true) := by
          show _ = _
          unfold anyB
          rw [List.any_eq_true]
          refine ⟨q, ?_, hs⟩
          rw [← HQ.out]
          have hkl : k < cs.length := by rw [HL.out]; exact hlt
          have e : cs.getD k default = cs[k] := by simp [hkl]
          rw [e]; exact List.getElem_mem hkl
        go_wp2
        go_ret
        exact ⟨_, rfl, ⟨fun _ => HT.out, fun _ => by omega⟩, B2⟩
      | false =>
        have HN2 : Hid (∀ j, j < k + 1 → wsB x now age p (cs.getD j default) = false) := fun j hj => by
          by_cases e : j < k
          · exact HN.out j e
          · obtain rfl : j = k := by omega
            rw [HQ.out]; exact hs
        go_wp2
        go_roundw
        case rel => exact ⟨k + 1, by omega, by go_num, HN2, B2⟩
        case measure => simp [intOf]; omega
    · obtain rfl : k = n := by omega
      have HF : Hid (anyB x now age cs p = false) := by
        show _ = _
        unfold anyB
        rw [List.any_eq_false]
        intro y hy
        obtain ⟨j, hj, rfl⟩ := List.getElem_of_mem hy
        have h1 := HN.out j (by rw [← HL.out]; exact hj)
        have e : cs.getD j default = cs[j] := by simp [hj]
        rw [e] at h1
        simp [h1]
      go_wp2
      go_ret
      exact ⟨_, rfl, ⟨fun h => absurd h (by decide), fun h => by rw [HF.out] at h; cases h⟩, hbr⟩

set_option maxRecDepth 10000 in
set_option maxHeartbeats 1000000 in
theorem containsWit_any (gk gn ga gp gh : Nat) (x : HP) (xa : Option Addr) (xn xc : Nat) (now age : Int) (p : Int × Int × Int) (cs : List CgP) (a : Option Addr) (n c : Nat) (w : World) (hB : WitB w gk gn ga gp gh x xa xn xc now age p) (hX : HpB x) (hn : timP now) (hy : U64 p.2.1) (h : Cgs (fun n c => n ≤ c ∧ n ≤ 1048576) w a n cs) :
    Calls Tryz.prog 54 #[.slice a n c, .func (Fn.func 52) #[] #[.pointer (some ⟨gk, 0, none⟩), .pointer (some ⟨gn, 0, none⟩), .pointer (some ⟨ga, 0, none⟩), .pointer (some ⟨gp, 0, none⟩), .pointer (some ⟨gh, 0, none⟩)]] w fun e w' => e = .returned (.bool (anyB x now age cs p)) ∧ Below w.heap.size w w' := by
  have H0 : Hid (Cgs (fun n c => n ≤ c ∧ n ≤ 1048576) w a n cs) := h
  have HB : Hid (WitB w gk gn ga gp gh x xa xn xc now age p) := hB
  clear h hB
  go_enter Tryz.func54, Tryz.ntmps54
  go_wp2_with fail
  refine (indexWit_any gk gn ga gp gh x xa xn xc now age p cs a n c _ HB.out hX hn hy H0.out).mono ?_
  rintro e w1 ⟨i, rfl, hi, hb1⟩
  have HD : Hid (decide (0 ≤ i) = anyB x now age cs p) := by
    show _ = _
    cases hs : anyB x now age cs p with
    | true => exact decide_eq_true (hi.out.2 hs)
    | false => exact decide_eq_false (fun h => by have := hi.out.1 h; rw [hs] at this; cases this)
  go_wp2
  go_ret
  exact ⟨by rw [← HD.out]; rfl, hb1⟩

end Go.Proofs.YtambgfmipfmkdaaGreat

namespace Go.Proofs.YtambgfmipfmkdaaGreat
open Go.RowKit

theorem sgB_head {sc y hh : Int} {x : HP} (h : sgB sc y hh x = true) (hu : U64 x.rt) : HpB x := by
  unfold sgB hsR at h
  rw [Bool.and_eq_true] at h
  have hp : headP x.lg x.sz x.rt x.at2 := of_decide_eq_true h.1
  exact ⟨hp.1.1, hp.1.2.1, hu⟩
/-- The boxes that stand outside the loop. -/
structure WoB (w : World) (gn ga gh : Nat) (x : HP) (xa : Option Addr) (xn xc : Nat) (now age : Int) : Prop where
  lt : gn < w.heap.size ∧ ga < w.heap.size ∧ gh < w.heap.size
  n0 : w.cell? ⟨gn, 0, none⟩ = some (.int .i64 now)
  a0 : w.cell? ⟨ga, 0, none⟩ = some (.int .i64 age)
  h0 : w.cell? ⟨gh, 0, none⟩ = some (.int .i64 x.lg)
  h1 : w.cell? ⟨gh, 1, none⟩ = some (.int .i64 x.sz)
  h2 : w.cell? ⟨gh, 2, none⟩ = some (.int .u64 x.rt)
  h3 : w.cell? ⟨gh, 3, none⟩ = some (.int .i64 x.at2)
  h4 : w.cell? ⟨gh, 4, none⟩ = some (.slice xa xn xc)
theorem WoB.kept {w w' : World} {gn ga gh : Nat} {x : HP} {xa : Option Addr} {xn xc : Nat} {now age : Int} (h : WoB w gn ga gh x xa xn xc now age) (hb : Below w.heap.size w w') : WoB w' gn ga gh x xa xn xc now age := by
  obtain ⟨l2, l3, l5⟩ := h.lt
  have hs := hb.size
  exact ⟨⟨by omega, by omega, by omega⟩, (hb.cell (p := ⟨gn, 0, none⟩) l2).trans h.n0, (hb.cell (p := ⟨ga, 0, none⟩) l3).trans h.a0, (hb.cell (p := ⟨gh, 0, none⟩) l5).trans h.h0, (hb.cell (p := ⟨gh, 1, none⟩) l5).trans h.h1, (hb.cell (p := ⟨gh, 2, none⟩) l5).trans h.h2, (hb.cell (p := ⟨gh, 3, none⟩) l5).trans h.h3, (hb.cell (p := ⟨gh, 4, none⟩) l5).trans h.h4⟩

set_option maxRecDepth 10000 in
set_option maxHeartbeats 8000000 in
theorem witnessCount_any (x : HP) (xa : Option Addr) (xn xc : Nat) (now age : Int) (cs : List CgP) (a : Option Addr) (n c : Nat) (ps : List (Int × Int × Int)) (b : Option Addr) (m d : Nat) (w : World) (hX : HpB x) (hn : timP now) (h : Cgs (fun n c => n ≤ c ∧ n ≤ 1048576) w a n cs) (hp : RowPu w b m ps) (hm : m ≤ 20) (h64 : ∀ j, (ps.getD j (0, 0, 0)).1 ≤ 9223372036854775807 ∧ (ps.getD j (0, 0, 0)).2.2 ≤ 9223372036854775807) :
    Calls Tryz.prog 29 #[.agg #[.int .i64 x.lg, .int .i64 x.sz, .int .u64 x.rt, .int .i64 x.at2, .slice xa xn xc], .slice a n c, .slice b m d, .int .i64 now, .int .i64 age] w fun e w' => e = .returned (.int .i64 ((cntL x now age cs ps).length : Int)) ∧ Below w.heap.size w w' := by
  obtain ⟨i0, hi, hz0, hz1, hz2⟩ := info_parts Tryz.infoU
  obtain ⟨wb, hwb⟩ : ∃ wb, wb = ((w.alloc (.cells #[.int .i64 x.lg, .int .i64 x.sz, .int .u64 x.rt, .int .i64 x.at2, .slice xa xn xc] 34)).alloc (.cells #[.int .i64 now] 2)).alloc (.cells #[.int .i64 age] 2) := ⟨_, rfl⟩
  have hbb : Below w.heap.size w wb := by rw [hwb]; exact (((Below.refl _ _).alloc (Nat.le_refl _) _).alloc (by simp) _).alloc (by simp; omega) _
  have hsz : wb.heap.size = w.heap.size + 3 := by rw [hwb]; simp
  obtain ⟨k0, k1, k2⟩ := heap_alloc2_newH w (.cells #[.int .i64 x.lg, .int .i64 x.sz, .int .u64 x.rt, .int .i64 x.at2, .slice xa xn xc] 34) (.cells #[.int .i64 now] 2) (.cells #[.int .i64 age] 2)
  rw [← hwb] at k0 k1 k2
  have HO : Hid (WoB wb (w.heap.size + 1) (w.heap.size + 1 + 1) w.heap.size x xa xn xc now age) := ⟨⟨by omega, by omega, by omega⟩, (cell_of_row _ _ 0 _ 2 (0, 0) k1).trans rfl, (cell_of_row _ _ 0 _ 2 (0, 0) k2).trans rfl, (cell_of_row _ _ 0 _ 34 (0, 0) k0).trans rfl, (cell_of_row _ _ 1 _ 34 (0, 0) k0).trans rfl, (cell_of_row _ _ 2 _ 34 (0, 0) k0).trans rfl, (cell_of_row _ _ 3 _ 34 (0, 0) k0).trans rfl, (cell_of_row _ _ 4 _ 34 (0, 0) k0).trans rfl⟩
  have HCG : Hid (Cgs (fun n c => n ≤ c ∧ n ≤ 1048576) wb a n cs) := h.kept hbb
  have HPU : Hid (RowPu wb b m ps) := hp.kept hbb
  have HLN : Hid (ps.length = m) := hp.len
  have HRG : Hid (UPu ps) := hp.rng
  have H64 : Hid (∀ j, (ps.getD j (0, 0, 0)).1 ≤ 9223372036854775807 ∧ (ps.getD j (0, 0, 0)).2.2 ≤ 9223372036854775807) := h64
  have HBB : Hid (Below w.heap.size w wb) := hbb
  clear k0 k1 k2 h hp h64 hbb
  go_enter Tryz.func29, Tryz.ntmps29
  go_upto_region 1 with fail
  rw [← hwb]
  clear hwb
  go_wp2
  go_loopw [11, 18] (fun o i wr => ∃ (j q cc : Nat) (ao : Option Addr), j ≤ m ∧ i = .int .i64 j ∧ o = .slice ao q cc ∧ q ≤ j ∧ Hid (OwnU wb.heap.size wr ao q cc (cntL x now age cs (ps.take j))) ∧ Below wb.heap.size wb wr) (fun _ i _ => m - (intOf i).toNat)
  case atStart => exact ⟨0, 0, 0, none, Nat.zero_le _, rfl, rfl, Nat.le_refl _, ownU_none _ _, Below.refl _ _⟩
  case round =>
    obtain ⟨j, q, cc, ao, hj, rfl, rfl, hq, HOW, hbr⟩ := hrel
    have hws := hbr.size
    by_cases hlt : j < m
    · have hlti : (j : Int) < (m : Int) := by omega
      obtain ⟨pb, po, rfl, hpb, x0, x1, x2⟩ := (HPU.out.kept hbr).get j hlt
      have hy := HRG.out j
      have h1l := (H64.out j).1
      have h2l := (H64.out j).2
      have HNX : Hid (cntL x now age cs (ps.take (j + 1)) = stepC x now age cs (cntL x now age cs (ps.take j)) (ps.getD j (0, 0, 0))) := cntL_next x now age cs ps j (by rw [HLN.out]; exact hlt)
      obtain ⟨p, hpe⟩ : ∃ p, p = ps.getD j (0, 0, 0) := ⟨_, rfl⟩
      rw [← hpe] at x0 x1 x2 hy h1l h2l HNX
      obtain ⟨zs, hzs⟩ : ∃ zs, zs = cntL x now age cs (ps.take j) := ⟨_, rfl⟩
      rw [← hzs] at HOW HNX
      clear hpe hzs
      have hal1 : Below wr.heap.size wr (wr.alloc (.cells #[.int .i64 p.1, .int .u64 p.2.1, .int .i64 p.2.2] 36)) := (Below.refl _ _).alloc (Nat.le_refl _) _
      have hkp : (wr.alloc (.cells #[.int .i64 p.1, .int .u64 p.2.1, .int .i64 p.2.2] 36)).heap[wr.heap.size]? = some (.cells #[.int .i64 p.1, .int .u64 p.2.1, .int .i64 p.2.2] 36 (0, 0)) := heap_alloc_new wr _
      have HKP : Hid (_ = _) := hkp
      clear hkp
      go_wp2_with fail
      refine (implKeyId_agg p _ hy h1l h2l).mono ?_
      rintro e w2 ⟨rfl, hb2⟩
      have B2 : Below wr.heap.size wr w2 := keepT hal1 hb2
      have hs2 := hb2.size
      obtain ⟨kd, hkd⟩ : ∃ kd, kd = kidP p := ⟨_, rfl⟩
      obtain ⟨w3, hw3⟩ : ∃ w3, w3 = w2.alloc (.cells #[.int .u64 kd] 22) := ⟨_, rfl⟩
      have hb3 : Below w2.heap.size w2 w3 := by rw [hw3]; exact (Below.refl _ _).alloc (Nat.le_refl _) _
      have hk3 : w3.heap[w2.heap.size]? = some (.cells #[.int .u64 kd] 22 (0, 0)) := by rw [hw3]; exact heap_alloc_new w2 _
      have hs3 : w2.heap.size < w3.heap.size := (Array.getElem?_eq_some_iff.1 hk3).1
      have B3 : Below wr.heap.size wr w3 := keepT B2 hb3
      have BW3 : Below wb.heap.size wb w3 := keepT hbr B3
      have hsw1 : wr.heap.size < w2.heap.size := by have h := (Array.getElem?_eq_some_iff.1 HKP.out).1; omega
      have hkp3 : w3.heap[wr.heap.size]? = some (.cells #[.int .i64 p.1, .int .u64 p.2.1, .int .i64 p.2.2] 36 (0, 0)) := (hb3.block _ hsw1).trans ((hb2.block _ (Array.getElem?_eq_some_iff.1 HKP.out).1).trans HKP.out)
      have HWI : Hid (WitB w3 w2.heap.size (w.heap.size + 1) (w.heap.size + 1 + 1) wr.heap.size w.heap.size x xa xn xc now age p) := by
        have o := HO.out.kept BW3
        exact ⟨⟨hs3, o.lt.1, o.lt.2.1, by omega, o.lt.2.2⟩, by rw [← hkd]; exact (cell_of_row _ _ 0 _ 22 (0, 0) hk3).trans rfl, o.n0, o.a0, (cell_of_row _ _ 0 _ 36 (0, 0) hkp3).trans rfl, (cell_of_row _ _ 1 _ 36 (0, 0) hkp3).trans rfl, (cell_of_row _ _ 2 _ 36 (0, 0) hkp3).trans rfl, o.h0, o.h1, o.h2, o.h3, o.h4⟩
      have ck : w3.cell? ⟨w2.heap.size, 0, none⟩ = some (.int .u64 kd) := (cell_of_row _ _ 0 _ 22 (0, 0) hk3).trans rfl
      have HOW3 : Hid (OwnU wb.heap.size w3 ao q cc zs) := HOW.out.kept B3
      have HST : Hid (stepC x now age cs zs p = if kd ∈ zs then zs else if anyB x now age cs p then zs ++ [kd] else zs) := by show _ = _; unfold stepC; rw [hkd]
      have HKU : Hid (U64 kd) := by show U64 kd; rw [hkd]; unfold kidP kidN; exact hashL_bd _
      have HW3 : Hid (_ = _) := hw3
      rw [← hkd]
      clear hkd HOW hw3 hk3 hkp3 HKP hal1 hb2 B2 hb3 x0 x1 x2
      go_upto_region 7 with fail
      rw [← HW3.out]
      clear HW3
      by_cases hin : kd ∈ zs
      · have d1 := decide_eq_true hin
        have HZ : Hid (cntL x now age cs (ps.take (j + 1)) = zs) := by show _ = _; rw [HNX.out, HST.out, if_pos hin]
        clear hin
        go_wp2_with fail
        refine (containsU_any ao q cc zs kd _ HOW3.out.toRow (by omega)).mono ?_
        rintro e w4 ⟨rfl, hw⟩
        have hw2 := hw.symm
        subst hw2
        rw [d1]
        go_wp2
        go_roundw
        case rel => exact ⟨j + 1, q, cc, ao, by omega, by go_num, rfl, by omega, by show OwnU _ _ _ _ _ _; rw [HZ.out]; exact HOW3.out, BW3⟩
        case measure => simp [intOf]; omega
      · have d1 := decide_eq_false hin
        cases hany : anyB x now age cs p with
        | false =>
          have HZ : Hid (cntL x now age cs (ps.take (j + 1)) = zs) := by show _ = _; rw [HNX.out, HST.out, if_neg hin, hany]; rfl
          clear hin
          go_wp2_with fail
          refine (containsU_any ao q cc zs kd _ HOW3.out.toRow (by omega)).mono ?_
          rintro e w4 ⟨rfl, hw⟩
          have hw2 := hw.symm
          subst hw2
          rw [d1]
          go_wp2_with fail
          refine (containsWit_any w2.heap.size (w.heap.size + 1) (w.heap.size + 1 + 1) wr.heap.size w.heap.size x xa xn xc now age p cs a n c _ HWI.out hX hn hy (HCG.out.kept BW3)).mono ?_
          rintro e w5 ⟨rfl, hb5⟩
          rw [hany]
          have BW5 := keepT BW3 hb5
          have HOW5 : Hid (OwnU wb.heap.size w5 ao q cc zs) := HOW3.out.kept hb5
          clear HWI HOW3 ck
          go_wp2
          go_roundw
          case rel => exact ⟨j + 1, q, cc, ao, by omega, by go_num, rfl, by omega, by show OwnU _ _ _ _ _ _; rw [HZ.out]; exact HOW5.out, BW5⟩
          case measure => simp [intOf]; omega
        | true =>
          have HZ : Hid (cntL x now age cs (ps.take (j + 1)) = zs ++ [kd]) := by show _ = _; rw [HNX.out, HST.out, if_neg hin, hany]; rfl
          clear hin
          go_wp2_with fail
          refine (containsU_any ao q cc zs kd _ HOW3.out.toRow (by omega)).mono ?_
          rintro e w4 ⟨rfl, hw⟩
          have hw2 := hw.symm
          subst hw2
          rw [d1]
          go_wp2_with fail
          refine (containsWit_any w2.heap.size (w.heap.size + 1) (w.heap.size + 1 + 1) wr.heap.size w.heap.size x xa xn xc now age p cs a n c _ HWI.out hX hn hy (HCG.out.kept BW3)).mono ?_
          rintro e w5 ⟨rfl, hb5⟩
          rw [hany]
          have BW5 := keepT BW3 hb5
          have hor5 : OwnU wb.heap.size w5 ao q cc zs := HOW3.out.kept hb5
          have ck5 := (hb5.cell (p := ⟨w2.heap.size, 0, none⟩) hs3).trans ck
          have hal : Below w5.heap.size w5 (w5.alloc (.cells #[.int .u64 kd] 22)) := (Below.refl _ _).alloc (Nat.le_refl _) _
          have hor := hor5.kept hal
          have B6 := keepT BW5 hal
          have hs6 := B6.size
          have hcl := cell_oneU w5 kd
          clear HWI HOW3 ck hor5
          go_wp2_with (first | (at_builtin; refine wpList_append_own _ rfl (.tmp 34) (.tmp 36) 52 rfl wb.heap.size 22 i0 _ 1 8 Tryz.underlying52 hi hz0 hz1 hz2 rfl (by decide) _ q _ rfl hor.row ⟨w5.heap.size, 0, none⟩ 1 1 ([kd].map (Value.int .u64)) rfl rfl hcl (ints_oneCell .u64 [kd]) (by unfold maxLen; omega) (by omega) (by exact hs6) ?_; intro v7 w7 hv7 hg7 _))
          rw [← List.map_append] at hv7
          obtain ⟨a7, c7, rfl, ho7⟩ := ownU_appended (u64_snoc hor.rng HKU.out) hv7
          have B7 : Below wb.heap.size wb w7 := B6.grown hg7 hs6 (fun kx hx => (hor.row.lt kx hx).1)
          have HO7 : Hid (OwnU wb.heap.size w7 a7 (q + 1) c7 (cntL x now age cs (ps.take (j + 1)))) := by show OwnU _ _ _ _ _ _; rw [HZ.out]; exact ho7
          clear ho7 hv7 hg7 hor hcl
          go_roundw
          case rel => exact ⟨j + 1, q + 1, c7, a7, by omega, by go_num, rfl, by omega, HO7, B7⟩
          case measure => simp [intOf]; omega
    · obtain rfl : j = m := by omega
      have HE : Hid ((cntL x now age cs ps).length = q) := by
        show _ = _
        have h := HOW.out.len
        rw [List.take_of_length_le (by rw [HLN.out]; exact Nat.le_refl _)] at h
        exact h
      have HFN := keepT HBB.out hbr
      go_wp2
      go_ret
      exact ⟨by rw [HE.out]; rfl, HFN⟩

end Go.Proofs.YtambgfmipfmkdaaGreat

namespace Go.Proofs.YtambgfmipfmkdaaGreat
open Go.RowKit

set_option maxRecDepth 10000 in
set_option maxHeartbeats 8000000 in
theorem implHeadCheck_any (x : HP) (xa : Option Addr) (xn xc : Nat) (sc y hh : Int) (cs : List CgP) (a : Option Addr) (n c : Nat) (ps : List (Int × Int × Int)) (b : Option Addr) (m d : Nat) (least now age : Int) (w : World) (hxr : Row w xa xn x.sg) (hxn : xn ≤ 1048576) (hxc : xn ≤ xc) (hu : U64 x.rt) (hy : U64 y) (h : Cgs (fun n c => n ≤ c ∧ n ≤ 1048576) w a n cs) (hp : RowPu w b m ps) (hmm : m ≤ 9223372036854775807) (h64 : ∀ j, (ps.getD j (0, 0, 0)).1 ≤ 9223372036854775807 ∧ (ps.getD j (0, 0, 0)).2.2 ≤ 9223372036854775807) :
    Calls Tryz.prog 12 #[.agg #[.int .i64 x.lg, .int .i64 x.sz, .int .u64 x.rt, .int .i64 x.at2, .slice xa xn xc], .agg #[.int .i64 sc, .int .u64 y, .int .i64 hh], .slice a n c, .slice b m d, .int .i64 least, .int .i64 now, .int .i64 age] w fun e w' => e = .returned (.int .i64 (hcV (sgB sc y hh x) x cs ps least now age)) ∧ Below w.heap.size w w' := by
  obtain ⟨wb, hwb⟩ : ∃ wb, wb = (w.alloc (.cells #[.int .i64 x.lg, .int .i64 x.sz, .int .u64 x.rt, .int .i64 x.at2, .slice xa xn xc] 34)).alloc (.cells #[.int .i64 sc, .int .u64 y, .int .i64 hh] 36) := ⟨_, rfl⟩
  have hbb : Below w.heap.size w wb := by rw [hwb]; exact ((Below.refl _ _).alloc (Nat.le_refl _) _).alloc (by simp) _
  have hsz : wb.heap.size = w.heap.size + 2 := by rw [hwb]; simp
  have s1 : (w.alloc (.cells #[.int .i64 x.lg, .int .i64 x.sz, .int .u64 x.rt, .int .i64 x.at2, .slice xa xn xc] 34)).heap.size = w.heap.size + 1 := by simp
  have hk0 : wb.heap[w.heap.size]? = some (.cells #[.int .i64 x.lg, .int .i64 x.sz, .int .u64 x.rt, .int .i64 x.at2, .slice xa xn xc] 34 (0, 0)) := by rw [hwb]; exact (alloc_oldT _ _ _ (by simp)).trans (heap_alloc_new w _)
  have hk1 : wb.heap[w.heap.size + 1]? = some (.cells #[.int .i64 sc, .int .u64 y, .int .i64 hh] 36 (0, 0)) := by rw [hwb, ← s1]; exact heap_alloc_new _ _
  have HC : Hid (∀ W, Below wb.heap.size wb W → W.cell? ⟨w.heap.size, 0, none⟩ = some (.int .i64 x.lg) ∧ W.cell? ⟨w.heap.size, 1, none⟩ = some (.int .i64 x.sz) ∧ W.cell? ⟨w.heap.size, 2, none⟩ = some (.int .u64 x.rt) ∧ W.cell? ⟨w.heap.size, 3, none⟩ = some (.int .i64 x.at2) ∧ W.cell? ⟨w.heap.size, 4, none⟩ = some (.slice xa xn xc) ∧ W.cell? ⟨w.heap.size + 1, 0, none⟩ = some (.int .i64 sc) ∧ W.cell? ⟨w.heap.size + 1, 1, none⟩ = some (.int .u64 y) ∧ W.cell? ⟨w.heap.size + 1, 2, none⟩ = some (.int .i64 hh)) := by
    intro W hW
    have b0 := (hW.block _ (by omega)).trans hk0
    have b1 := (hW.block _ (by omega)).trans hk1
    exact ⟨(cell_of_row _ _ 0 _ 34 (0, 0) b0).trans rfl, (cell_of_row _ _ 1 _ 34 (0, 0) b0).trans rfl, (cell_of_row _ _ 2 _ 34 (0, 0) b0).trans rfl, (cell_of_row _ _ 3 _ 34 (0, 0) b0).trans rfl, (cell_of_row _ _ 4 _ 34 (0, 0) b0).trans rfl, (cell_of_row _ _ 0 _ 36 (0, 0) b1).trans rfl, (cell_of_row _ _ 1 _ 36 (0, 0) b1).trans rfl, (cell_of_row _ _ 2 _ 36 (0, 0) b1).trans rfl⟩
  have HXR : Hid (Row wb xa xn x.sg) := hxr.kept hbb
  have HCG : Hid (Cgs (fun n c => n ≤ c ∧ n ≤ 1048576) wb a n cs) := h.kept hbb
  have HPU : Hid (RowPu wb b m ps) := hp.kept hbb
  have HLC : Hid (cs.length = n) := h.len
  have HLP : Hid (ps.length = m) := hp.len
  have HRG : Hid (UPu ps) := hp.rng
  have H64 : Hid (∀ j, (ps.getD j (0, 0, 0)).1 ≤ 9223372036854775807 ∧ (ps.getD j (0, 0, 0)).2.2 ≤ 9223372036854775807) := h64
  have HBB : Hid (Below w.heap.size w wb) := hbb
  have hnm := h.max
  clear hxr h hp h64 hbb hk0 hk1 s1
  obtain ⟨u0, u1, u2, u3, u4, v0, v1, v2⟩ := HC.out wb (Below.refl _ _)
  cases hs : sgB sc y hh x with
  | false =>
    have HV : Hid (hcV false x cs ps least now age = 1) := by show _ = _; unfold hcV; rw [if_pos rfl]
    go_enter Tryz.func12, Tryz.ntmps12
    go_upto_region 1 with fail
    rw [← hwb]
    clear hwb
    go_wp2_with fail
    refine (implSigned_hp x xa xn xc sc y hh _ hu hy HXR.out hxn hxc).mono ?_
    rintro e w1 ⟨rfl, hb1⟩
    rw [hs]
    have t3 := (HC.out w1 hb1).2.2.2.1
    clear u0 u1 u2 u3 u4 v0 v1 v2
    go_wp2
    go_ret
    exact ⟨by rw [HV.out]; rfl, keepT HBB.out hb1⟩
  | true =>
    have hX := sgB_head hs hu
    by_cases hn : timP now
    case neg =>
      have HV : Hid (hcV true x cs ps least now age = 2) := by show _ = _; unfold hcV; rw [if_neg (by decide), if_neg (fun h => hn h.2.1)]
      have dn := decide_eq_false hn
      clear hn
      go_enter Tryz.func12, Tryz.ntmps12
      go_upto_region 1 with fail
      rw [← hwb]
      clear hwb
      go_wp2_with fail
      refine (implSigned_hp x xa xn xc sc y hh _ hu hy HXR.out hxn hxc).mono ?_
      rintro e w1 ⟨rfl, hb1⟩
      rw [hs]
      have t3 := (HC.out w1 hb1).2.2.2.1
      clear u0 u1 u2 u3 u4 v0 v1 v2
      go_wp2_with fail
      refine (isTim_any now _).mono ?_
      rintro e w2 ⟨rfl, hw⟩
      have hw2 := hw.symm
      subst hw2
      rw [dn]
      go_wp2
      go_ret
      exact ⟨by rw [HV.out]; rfl, keepT HBB.out hb1⟩
    have dn := decide_eq_true hn
    by_cases hf : freshP x.at2 now age
    case neg =>
      have HV : Hid (hcV true x cs ps least now age = 2) := by show _ = _; unfold hcV; rw [if_neg (by decide), if_neg hf]
      have df := decide_eq_false hf
      clear hf
      go_enter Tryz.func12, Tryz.ntmps12
      go_upto_region 1 with fail
      rw [← hwb]
      clear hwb
      go_wp2_with fail
      refine (implSigned_hp x xa xn xc sc y hh _ hu hy HXR.out hxn hxc).mono ?_
      rintro e w1 ⟨rfl, hb1⟩
      rw [hs]
      have t3 := (HC.out w1 hb1).2.2.2.1
      clear u0 u1 u2 u3 u4 v0 v1 v2
      go_wp2_with fail
      refine (isTim_any now _).mono ?_
      rintro e w2 ⟨rfl, hw⟩
      have hw2 := hw.symm
      subst hw2
      rw [dn]
      go_wp2_with fail
      refine (isFresh_any x.at2 now age _ hn).mono ?_
      rintro e w2 ⟨rfl, hw⟩
      have hw2 := hw.symm
      subst hw2
      rw [df]
      go_wp2
      go_ret
      exact ⟨by rw [HV.out]; rfl, keepT HBB.out hb1⟩
    have df := decide_eq_true hf
    by_cases hl1 : 20 < n
    case pos =>
      have HV : Hid (hcV true x cs ps least now age = 3) := by show _ = _; unfold hcV; rw [if_neg (by decide), if_pos hf, if_pos (by rw [HLC.out, HLP.out]; omega)]
      have hli : (20 : Int) < (n : Int) := by omega
      go_enter Tryz.func12, Tryz.ntmps12
      go_upto_region 1 with fail
      rw [← hwb]
      clear hwb
      go_wp2_with fail
      refine (implSigned_hp x xa xn xc sc y hh _ hu hy HXR.out hxn hxc).mono ?_
      rintro e w1 ⟨rfl, hb1⟩
      rw [hs]
      have t3 := (HC.out w1 hb1).2.2.2.1
      clear u0 u1 u2 u3 u4 v0 v1 v2
      go_wp2_with fail
      refine (isTim_any now _).mono ?_
      rintro e w2 ⟨rfl, hw⟩
      have hw2 := hw.symm
      subst hw2
      rw [dn]
      go_wp2_with fail
      refine (isFresh_any x.at2 now age _ hn).mono ?_
      rintro e w2 ⟨rfl, hw⟩
      have hw2 := hw.symm
      subst hw2
      rw [df]
      go_wp2
      go_ret
      exact ⟨by rw [HV.out]; rfl, keepT HBB.out hb1⟩
    have hl1i : ¬ (20 : Int) < (n : Int) := by omega
    by_cases hl2 : 20 < m
    case pos =>
      have HV : Hid (hcV true x cs ps least now age = 3) := by show _ = _; unfold hcV; rw [if_neg (by decide), if_pos hf, if_pos (by rw [HLC.out, HLP.out]; omega)]
      have hli : (20 : Int) < (m : Int) := by omega
      go_enter Tryz.func12, Tryz.ntmps12
      go_upto_region 1 with fail
      rw [← hwb]
      clear hwb
      go_wp2_with fail
      refine (implSigned_hp x xa xn xc sc y hh _ hu hy HXR.out hxn hxc).mono ?_
      rintro e w1 ⟨rfl, hb1⟩
      rw [hs]
      have t3 := (HC.out w1 hb1).2.2.2.1
      clear u0 u1 u2 u3 u4 v0 v1 v2
      go_wp2_with fail
      refine (isTim_any now _).mono ?_
      rintro e w2 ⟨rfl, hw⟩
      have hw2 := hw.symm
      subst hw2
      rw [dn]
      go_wp2_with fail
      refine (isFresh_any x.at2 now age _ hn).mono ?_
      rintro e w2 ⟨rfl, hw⟩
      have hw2 := hw.symm
      subst hw2
      rw [df]
      go_wp2
      go_ret
      exact ⟨by rw [HV.out]; rfl, keepT HBB.out hb1⟩
    have hl2i : ¬ (20 : Int) < (m : Int) := by omega
    obtain ⟨L, hL⟩ : ∃ L : Int, L = ((cntL x now age cs ps).length : Int) := ⟨_, rfl⟩
    by_cases hle : L < least
    · have HV : Hid (hcV true x cs ps least now age = 3) := by show _ = _; unfold hcV; rw [if_neg (by decide), if_pos hf, if_neg (by rw [HLC.out, HLP.out]; omega), ← hL, if_pos hle]
      go_enter Tryz.func12, Tryz.ntmps12
      go_upto_region 1 with fail
      rw [← hwb]
      clear hwb
      go_wp2_with fail
      refine (implSigned_hp x xa xn xc sc y hh _ hu hy HXR.out hxn hxc).mono ?_
      rintro e w1 ⟨rfl, hb1⟩
      rw [hs]
      have t3 := (HC.out w1 hb1).2.2.2.1
      clear u0 u1 u2 u3 u4 v0 v1 v2
      go_wp2_with fail
      refine (isTim_any now _).mono ?_
      rintro e w2 ⟨rfl, hw⟩
      have hw2 := hw.symm
      subst hw2
      rw [dn]
      go_wp2_with fail
      refine (isFresh_any x.at2 now age _ hn).mono ?_
      rintro e w2 ⟨rfl, hw⟩
      have hw2 := hw.symm
      subst hw2
      rw [df]
      have q0 := HC.out w1 hb1
      obtain ⟨e0, e1, e2, e3, e4, _⟩ := q0
      go_wp2_with fail
      refine (witnessCount_any x xa xn xc now age cs a n c ps b m d _ hX hn (HCG.out.kept hb1) (HPU.out.kept hb1) (by omega) H64.out).mono ?_
      rintro e w3 ⟨rfl, hb3⟩
      rw [← hL]
      clear hL
      go_wp2
      go_ret
      exact ⟨by rw [HV.out]; rfl, keepT HBB.out (keepT hb1 hb3)⟩
    · have HV : Hid (hcV true x cs ps least now age = 0) := by show _ = _; unfold hcV; rw [if_neg (by decide), if_pos hf, if_neg (by rw [HLC.out, HLP.out]; omega), ← hL, if_neg hle]
      go_enter Tryz.func12, Tryz.ntmps12
      go_upto_region 1 with fail
      rw [← hwb]
      clear hwb
      go_wp2_with fail
      refine (implSigned_hp x xa xn xc sc y hh _ hu hy HXR.out hxn hxc).mono ?_
      rintro e w1 ⟨rfl, hb1⟩
      rw [hs]
      have t3 := (HC.out w1 hb1).2.2.2.1
      clear u0 u1 u2 u3 u4 v0 v1 v2
      go_wp2_with fail
      refine (isTim_any now _).mono ?_
      rintro e w2 ⟨rfl, hw⟩
      have hw2 := hw.symm
      subst hw2
      rw [dn]
      go_wp2_with fail
      refine (isFresh_any x.at2 now age _ hn).mono ?_
      rintro e w2 ⟨rfl, hw⟩
      have hw2 := hw.symm
      subst hw2
      rw [df]
      have q0 := HC.out w1 hb1
      obtain ⟨e0, e1, e2, e3, e4, _⟩ := q0
      go_wp2_with fail
      refine (witnessCount_any x xa xn xc now age cs a n c ps b m d _ hX hn (HCG.out.kept hb1) (HPU.out.kept hb1) (by omega) H64.out).mono ?_
      rintro e w3 ⟨rfl, hb3⟩
      rw [← hL]
      clear hL
      go_wp2
      go_ret
      exact ⟨by rw [HV.out]; rfl, keepT HBB.out (keepT hb1 hb3)⟩

end Go.Proofs.YtambgfmipfmkdaaGreat

namespace Go.Proofs.YtambgfmipfmkdaaGreat
open Go.RowKit

set_option maxRecDepth 10000 in
set_option maxHeartbeats 8000000 in
theorem specHeadCheck_any (x : HP) (xa : Option Addr) (xn xc : Nat) (sc y hh : Int) (cs : List CgP) (a : Option Addr) (n c : Nat) (ps : List (Int × Int × Int)) (b : Option Addr) (m d : Nat) (least now age : Int) (w : World) (hxr : Row w xa xn x.sg) (hxn : xn ≤ 1048576) (hxc : xn ≤ xc) (hu : U64 x.rt) (hy : U64 y) (h : Cgs (fun n c => n ≤ c ∧ n ≤ 1048576) w a n cs) (hp : RowPu w b m ps) (hmm : m ≤ 9223372036854775807) (h64 : ∀ j, (ps.getD j (0, 0, 0)).1 ≤ 9223372036854775807 ∧ (ps.getD j (0, 0, 0)).2.2 ≤ 9223372036854775807) :
    Calls Tryz.prog 7 #[.agg #[.int .i64 x.lg, .int .i64 x.sz, .int .u64 x.rt, .int .i64 x.at2, .slice xa xn xc], .agg #[.int .i64 sc, .int .u64 y, .int .i64 hh], .slice a n c, .slice b m d, .int .i64 least, .int .i64 now, .int .i64 age] w fun e w' => e = .returned (.int .i64 (hcV (sgB sc y hh x) x cs ps least now age)) ∧ Below w.heap.size w w' := by
  obtain ⟨wb, hwb⟩ : ∃ wb, wb = (w.alloc (.cells #[.int .i64 x.lg, .int .i64 x.sz, .int .u64 x.rt, .int .i64 x.at2, .slice xa xn xc] 34)).alloc (.cells #[.int .i64 sc, .int .u64 y, .int .i64 hh] 36) := ⟨_, rfl⟩
  have hbb : Below w.heap.size w wb := by rw [hwb]; exact ((Below.refl _ _).alloc (Nat.le_refl _) _).alloc (by simp) _
  have hsz : wb.heap.size = w.heap.size + 2 := by rw [hwb]; simp
  have s1 : (w.alloc (.cells #[.int .i64 x.lg, .int .i64 x.sz, .int .u64 x.rt, .int .i64 x.at2, .slice xa xn xc] 34)).heap.size = w.heap.size + 1 := by simp
  have hk0 : wb.heap[w.heap.size]? = some (.cells #[.int .i64 x.lg, .int .i64 x.sz, .int .u64 x.rt, .int .i64 x.at2, .slice xa xn xc] 34 (0, 0)) := by rw [hwb]; exact (alloc_oldT _ _ _ (by simp)).trans (heap_alloc_new w _)
  have hk1 : wb.heap[w.heap.size + 1]? = some (.cells #[.int .i64 sc, .int .u64 y, .int .i64 hh] 36 (0, 0)) := by rw [hwb, ← s1]; exact heap_alloc_new _ _
  have HC : Hid (∀ W, Below wb.heap.size wb W → W.cell? ⟨w.heap.size, 0, none⟩ = some (.int .i64 x.lg) ∧ W.cell? ⟨w.heap.size, 1, none⟩ = some (.int .i64 x.sz) ∧ W.cell? ⟨w.heap.size, 2, none⟩ = some (.int .u64 x.rt) ∧ W.cell? ⟨w.heap.size, 3, none⟩ = some (.int .i64 x.at2) ∧ W.cell? ⟨w.heap.size, 4, none⟩ = some (.slice xa xn xc) ∧ W.cell? ⟨w.heap.size + 1, 0, none⟩ = some (.int .i64 sc) ∧ W.cell? ⟨w.heap.size + 1, 1, none⟩ = some (.int .u64 y) ∧ W.cell? ⟨w.heap.size + 1, 2, none⟩ = some (.int .i64 hh)) := by
    intro W hW
    have b0 := (hW.block _ (by omega)).trans hk0
    have b1 := (hW.block _ (by omega)).trans hk1
    exact ⟨(cell_of_row _ _ 0 _ 34 (0, 0) b0).trans rfl, (cell_of_row _ _ 1 _ 34 (0, 0) b0).trans rfl, (cell_of_row _ _ 2 _ 34 (0, 0) b0).trans rfl, (cell_of_row _ _ 3 _ 34 (0, 0) b0).trans rfl, (cell_of_row _ _ 4 _ 34 (0, 0) b0).trans rfl, (cell_of_row _ _ 0 _ 36 (0, 0) b1).trans rfl, (cell_of_row _ _ 1 _ 36 (0, 0) b1).trans rfl, (cell_of_row _ _ 2 _ 36 (0, 0) b1).trans rfl⟩
  have HXR : Hid (Row wb xa xn x.sg) := hxr.kept hbb
  have HCG : Hid (Cgs (fun n c => n ≤ c ∧ n ≤ 1048576) wb a n cs) := h.kept hbb
  have HPU : Hid (RowPu wb b m ps) := hp.kept hbb
  have HLC : Hid (cs.length = n) := h.len
  have HLP : Hid (ps.length = m) := hp.len
  have HRG : Hid (UPu ps) := hp.rng
  have H64 : Hid (∀ j, (ps.getD j (0, 0, 0)).1 ≤ 9223372036854775807 ∧ (ps.getD j (0, 0, 0)).2.2 ≤ 9223372036854775807) := h64
  have HBB : Hid (Below w.heap.size w wb) := hbb
  have hnm := h.max
  clear hxr h hp h64 hbb hk0 hk1 s1
  obtain ⟨u0, u1, u2, u3, u4, v0, v1, v2⟩ := HC.out wb (Below.refl _ _)
  obtain ⟨i0, hi, hz0, hz1, hz2⟩ := info_parts Tryz.infoU
  cases hs : sgB sc y hh x with
  | false =>
    have HV : Hid (hcV false x cs ps least now age = 1) := by show _ = _; unfold hcV; rw [if_pos rfl]
    go_enter Tryz.func7, Tryz.ntmps7
    go_upto_region 1 with fail
    rw [← hwb]
    clear hwb
    go_wp2_with fail
    refine (specSigned_hp x xa xn xc sc y hh _ hu hy HXR.out hxn hxc).mono ?_
    rintro e w1 ⟨rfl, hb1⟩
    rw [hs]
    have t3 := (HC.out w1 hb1).2.2.2.1
    clear u0 u1 u2 u3 u4 v0 v1 v2
    go_wp2
    go_ret
    exact ⟨by rw [HV.out]; rfl, keepT HBB.out hb1⟩
  | true =>
    have hX := sgB_head hs hu
    have hX3 : 0 ≤ x.rt ∧ x.rt ≤ 18446744073709551615 := hX.2.2
    by_cases hf : freshP x.at2 now age
    case neg =>
      have HV : Hid (hcV true x cs ps least now age = 2) := by show _ = _; unfold hcV; rw [if_neg (by decide), if_neg hf]
      have df := decide_eq_false hf
      clear hf
      go_enter Tryz.func7, Tryz.ntmps7
      go_upto_region 1 with fail
      rw [← hwb]
      clear hwb
      go_wp2_with fail
      refine (specSigned_hp x xa xn xc sc y hh _ hu hy HXR.out hxn hxc).mono ?_
      rintro e w1 ⟨rfl, hb1⟩
      rw [hs]
      have t3 := (HC.out w1 hb1).2.2.2.1
      clear u0 u1 u2 u3 u4 v0 v1 v2
      go_wp2_with fail
      refine (l16Fresh_any x.at2 now age _).mono ?_
      rintro e w2 ⟨rfl, hw⟩
      have hw2 := hw.symm
      subst hw2
      rw [df]
      go_wp2
      go_ret
      exact ⟨by rw [HV.out]; rfl, keepT HBB.out hb1⟩
    have df := decide_eq_true hf
    by_cases hl1 : 20 < n
    case pos =>
      have HV : Hid (hcV true x cs ps least now age = 3) := by show _ = _; unfold hcV; rw [if_neg (by decide), if_pos hf, if_pos (by rw [HLC.out, HLP.out]; omega)]
      have hli : (20 : Int) < (n : Int) := by omega
      go_enter Tryz.func7, Tryz.ntmps7
      go_upto_region 1 with fail
      rw [← hwb]
      clear hwb
      go_wp2_with fail
      refine (specSigned_hp x xa xn xc sc y hh _ hu hy HXR.out hxn hxc).mono ?_
      rintro e w1 ⟨rfl, hb1⟩
      rw [hs]
      have t3 := (HC.out w1 hb1).2.2.2.1
      clear u0 u1 u2 u3 u4 v0 v1 v2
      go_wp2_with fail
      refine (l16Fresh_any x.at2 now age _).mono ?_
      rintro e w2 ⟨rfl, hw⟩
      have hw2 := hw.symm
      subst hw2
      rw [df]
      go_wp2
      go_ret
      exact ⟨by rw [HV.out]; rfl, keepT HBB.out hb1⟩
    have hl1i : ¬ (20 : Int) < (n : Int) := by omega
    by_cases hl2 : 20 < m
    case pos =>
      have HV : Hid (hcV true x cs ps least now age = 3) := by show _ = _; unfold hcV; rw [if_neg (by decide), if_pos hf, if_pos (by rw [HLC.out, HLP.out]; omega)]
      have hli : (20 : Int) < (m : Int) := by omega
      go_enter Tryz.func7, Tryz.ntmps7
      go_upto_region 1 with fail
      rw [← hwb]
      clear hwb
      go_wp2_with fail
      refine (specSigned_hp x xa xn xc sc y hh _ hu hy HXR.out hxn hxc).mono ?_
      rintro e w1 ⟨rfl, hb1⟩
      rw [hs]
      have t3 := (HC.out w1 hb1).2.2.2.1
      clear u0 u1 u2 u3 u4 v0 v1 v2
      go_wp2_with fail
      refine (l16Fresh_any x.at2 now age _).mono ?_
      rintro e w2 ⟨rfl, hw⟩
      have hw2 := hw.symm
      subst hw2
      rw [df]
      go_wp2
      go_ret
      exact ⟨by rw [HV.out]; rfl, keepT HBB.out hb1⟩
    have hl2i : ¬ (20 : Int) < (m : Int) := by omega
    obtain ⟨L, hL⟩ : ∃ L : Int, L = ((cntL x now age cs ps).length : Int) := ⟨_, rfl⟩
    go_enter Tryz.func7, Tryz.ntmps7
    go_upto_region 1 with fail
    rw [← hwb]
    clear hwb
    go_wp2_with fail
    refine (specSigned_hp x xa xn xc sc y hh _ hu hy HXR.out hxn hxc).mono ?_
    rintro e w1 ⟨rfl, hb1⟩
    rw [hs]
    have t3 := (HC.out w1 hb1).2.2.2.1
    clear u0 u1 u2 u3 u4 v0 v1 v2
    go_wp2_with fail
    refine (l16Fresh_any x.at2 now age _).mono ?_
    rintro e w2 ⟨rfl, hw⟩
    have hw2 := hw.symm
    subst hw2
    rw [df]
    have hal0 : Below w1.heap.size w1 (w1.alloc (.cells #[] 22)) := (Below.refl _ _).alloc (Nat.le_refl _) _
    obtain ⟨w0, hw0⟩ : ∃ w0, w0 = w1 := ⟨_, rfl⟩
    have BW1 : Below wb.heap.size wb w0 := by rw [hw0]; exact hb1
    have HOE : Hid (OwnU w0.heap.size (w0.alloc (.cells #[] 22)) (some ⟨w0.heap.size, 0, none⟩) 0 0 []) := ownU_empty w0
    rw [← hw0] at hal0
    have HAL0 : Hid (_) := hal0
    have HW0 : Hid (w0 = w1) := hw0
    clear hw0 hal0
    go_wp2
    rw [← HW0.out]
    go_loopw [15, 16, 17] (fun nn o i wr => ∃ (j q cc : Nat) (ao : Option Addr), j ≤ m ∧ i = .int .i64 j ∧ o = .slice ao q cc ∧ nn = .int .i64 q ∧ q ≤ j ∧ Hid (OwnU w0.heap.size wr ao q cc (cntL x now age cs (ps.take j))) ∧ Below w0.heap.size w0 wr) (fun _ _ i _ => m - (intOf i).toNat)
    case atStart => exact ⟨0, 0, 0, _, Nat.zero_le _, rfl, rfl, rfl, Nat.le_refl _, HOE, HAL0.out⟩
    case round =>
      obtain ⟨j, q, cc, ao, hj, rfl, rfl, rfl, hq, HOW, hbr⟩ := hrel
      have BWR : Below wb.heap.size wb wr := keepT BW1 hbr
      by_cases hlt : j < m
      · have hlti : (j : Int) < (m : Int) := by omega
        obtain ⟨pb, po, rfl, hpb, x0, x1, x2⟩ := (HPU.out.kept BWR).get j hlt
        have hyp := HRG.out j
        have h1l := (H64.out j).1
        have h2l := (H64.out j).2
        have HNX : Hid (cntL x now age cs (ps.take (j + 1)) = stepC x now age cs (cntL x now age cs (ps.take j)) (ps.getD j (0, 0, 0))) := cntL_next x now age cs ps j (by rw [HLP.out]; exact hlt)
        obtain ⟨p, hpe⟩ : ∃ p, p = ps.getD j (0, 0, 0) := ⟨_, rfl⟩
        rw [← hpe] at x0 x1 x2 hyp h1l h2l HNX
        obtain ⟨zs, hzs⟩ : ∃ zs, zs = cntL x now age cs (ps.take j) := ⟨_, rfl⟩
        rw [← hzs] at HOW HNX
        clear hpe hzs
        have HPC : Hid (∀ W, Below wr.heap.size wr W → W.cell? ⟨pb, po + j * 3, none⟩ = some (.int .i64 p.1) ∧ W.cell? ⟨pb, po + j * 3 + 1, none⟩ = some (.int .u64 p.2.1) ∧ W.cell? ⟨pb, po + j * 3 + 2, none⟩ = some (.int .i64 p.2.2)) := fun W hW => ⟨(hW.cell (p := ⟨pb, po + j * 3, none⟩) hpb).trans x0, (hW.cell (p := ⟨pb, po + j * 3 + 1, none⟩) hpb).trans x1, (hW.cell (p := ⟨pb, po + j * 3 + 2, none⟩) hpb).trans x2⟩
        go_wp2_with fail
        refine (specKeyId_agg p _ hyp h1l h2l).mono ?_
        rintro e w3 ⟨rfl, B3⟩
        have BW3 : Below wb.heap.size wb w3 := keepT BWR B3
        have BW0 : Below w0.heap.size w0 w3 := keepT hbr B3
        obtain ⟨kd, hkd⟩ : ∃ kd, kd = kidP p := ⟨_, rfl⟩
        have HKD : Hid (kd = kidP p) := hkd
        have HOW3 : Hid (OwnU w0.heap.size w3 ao q cc zs) := HOW.out.kept B3
        have HST : Hid (stepC x now age cs zs p = if kd ∈ zs then zs else if anyB x now age cs p then zs ++ [kd] else zs) := by show _ = _; unfold stepC; rw [hkd]
        have HKU : Hid (U64 kd) := by show U64 kd; rw [hkd]; unfold kidP kidN; exact hashL_bd _
        rw [← hkd]
        clear hkd HOW x0 x1 x2
        go_wp2_with fail
        refine (l11Has_any ao q cc zs kd _ HOW3.out.toRow (by omega)).mono ?_
        rintro e w4 ⟨rfl, hw⟩
        have hw2 := hw.symm
        subst hw2
        by_cases hin : kd ∈ zs
        · rw [decide_eq_true hin]
          have HZ : Hid (cntL x now age cs (ps.take (j + 1)) = zs) := by show _ = _; rw [HNX.out, HST.out, if_pos hin]
          clear hin
          go_wp2
          go_roundw
          case rel => exact ⟨j + 1, q, cc, ao, by omega, by go_num, rfl, rfl, by omega, by show OwnU _ _ _ _ _ _; rw [HZ.out]; exact HOW3.out, BW0⟩
          case measure => simp [intOf]; omega
        · rw [decide_eq_false hin]
          go_wp2
          go_loopw [19, 20] (fun gg kk wr => ∃ (k : Nat) (g : Bool), k ≤ n ∧ kk = .int .i64 k ∧ gg = .bool g ∧ Hid (g = (cs.take k).any (wsB x now age p)) ∧ Below w3.heap.size w3 wr) (fun _ kk _ => n - (intOf kk).toNat)
          case atStart => exact ⟨0, false, Nat.zero_le _, rfl, rfl, (by show _ = _; simp), Below.refl _ _⟩
          case round =>
            obtain ⟨k, g, hk, rfl, rfl, HG, hbk⟩ := hrel
            by_cases hgo : k < n ∧ g = false
            · obtain ⟨hkn, rfl⟩ := hgo
              have hkni : (k : Int) < (n : Int) := by omega
              obtain ⟨cb, co, a1, n1, e1, rfl, hcb, hcc, hcr, _, _, hK⟩ := (HCG.out.kept (keepT BW3 hbk)).get k hkn
              obtain ⟨c1, hc1⟩ : ∃ c1, c1 = cs.getD k default := ⟨_, rfl⟩
              rw [← hc1] at hcc hcr
              have HTK : Hid ((cs.take (k + 1)).any (wsB x now age p) = wsB x now age p c1) := by
                show _ = _
                have hkl : k < cs.length := by rw [HLC.out]; exact hkn
                have e2 : cs.getD k default = cs[k] := by simp [hkl]
                rw [List.take_succ_eq_append_getElem hkl, List.any_append, ← HG.out, hc1, e2]
                simp
              obtain ⟨f0, f1, f2⟩ := hcc
              have HCR : Hid (Row wr a1 n1 c1.sg) := hcr
              obtain ⟨wz, hwz⟩ : ∃ wz, wz = wr.alloc (.cells #[.int .u64 c1.key, .int .i64 c1.at2, .slice a1 n1 e1] 55) := ⟨_, rfl⟩
              have hbz : Below wr.heap.size wr wz := by rw [hwz]; exact (Below.refl _ _).alloc (Nat.le_refl _) _
              have hkz : wz.heap[wr.heap.size]? = some (.cells #[.int .u64 c1.key, .int .i64 c1.at2, .slice a1 n1 e1] 55 (0, 0)) := by rw [hwz]; exact heap_alloc_new wr _
              have hlz : wr.heap.size < wz.heap.size := (Array.getElem?_eq_some_iff.1 hkz).1
              have BZ : Below w3.heap.size w3 wz := keepT hbk hbz
              have HCZ : Hid (∀ W, Below wz.heap.size wz W → W.cell? ⟨wr.heap.size, 0, none⟩ = some (.int .u64 c1.key) ∧ W.cell? ⟨wr.heap.size, 1, none⟩ = some (.int .i64 c1.at2) ∧ W.cell? ⟨wr.heap.size, 2, none⟩ = some (.slice a1 n1 e1) ∧ W.cell? ⟨w.heap.size, 0, none⟩ = some (.int .i64 x.lg) ∧ W.cell? ⟨w.heap.size, 1, none⟩ = some (.int .i64 x.sz) ∧ W.cell? ⟨w.heap.size, 2, none⟩ = some (.int .u64 x.rt) ∧ W.cell? ⟨pb, po + j * 3, none⟩ = some (.int .i64 p.1) ∧ W.cell? ⟨pb, po + j * 3 + 1, none⟩ = some (.int .u64 p.2.1) ∧ W.cell? ⟨pb, po + j * 3 + 2, none⟩ = some (.int .i64 p.2.2)) := by
                intro W hW
                have bq := (hW.block _ hlz).trans hkz
                have hx := HC.out W (keepT (keepT BW3 BZ) hW)
                have hpp := HPC.out W (keepT (keepT B3 BZ) hW)
                exact ⟨(cell_of_row _ _ 0 _ 55 (0, 0) bq).trans rfl, (cell_of_row _ _ 1 _ 55 (0, 0) bq).trans rfl, (cell_of_row _ _ 2 _ 55 (0, 0) bq).trans rfl, hx.1, hx.2.1, hx.2.2.1, hpp.1, hpp.2.1, hpp.2.2⟩
              have HWZ : Hid (_ = _) := hwz
              clear hc1 hcr hwz hkz
              by_cases t1 : c1.key = kd
              case neg =>
                have HGN : Hid (false = (cs.take (k + 1)).any (wsB x now age p)) := by show _ = _; rw [HTK.out]; unfold wsB; rw [decide_eq_false (by rw [← HKD.out]; exact t1)]; rfl
                have d1 : (c1.key == kd) = false := by simp [t1]
                obtain ⟨y0, y1, y2, y3, y4, y5, y6, y7, y8⟩ := HCZ.out wz (Below.refl _ _)
                clear t1
                have r0 := cell_regrown y0
                have r1 := cell_regrown y1
                have r2 := cell_regrown y2
                have r3 := cell_regrown y3
                have r4 := cell_regrown y4
                have r5 := cell_regrown y5
                have r6 := cell_regrown y6
                have r7 := cell_regrown y7
                have r8 := cell_regrown y8
                clear y0 y1 y2 y3 y4 y5 y6 y7 y8
                go_upto_region 19 with fail
                rw [← HWZ.out]
                refine wp_region_quiet_below (by kernel_rfl) (by kernel_rfl) ?_
                go_big_quiet_step (fail)
                go_big_quiet_step (fail)
                go_big_quiet_step (fail)
                go_big_quiet_step (fail)
                go_big_quiet_step (fail)
                go_big_quiet_step (fail)
                go_big_quiet_step (fail)
                go_big_quiet_step (fail)
                go_big_quiet_step (fail)
                go_big_quiet_step (fail)
                go_big_quiet_step (fail)
                go_big_quiet_step (fail)
                go_big_quiet_step (fail)
                go_big_quiet_step (fail)
                go_big_quiet_step (fail)
                go_big_quiet_step (fail)
                go_big_quiet_step (fail)
                go_big_quiet_step (fail)
                go_big_quiet_step (fail)
                go_big_quiet_step (fail)
                go_big_quiet_step (fail)
                go_big_quiet_step (fail)
                go_big_quiet_step (fail)
                go_big_quiet_step (fail)
                go_big_quiet_step (fail)
                go_big_quiet_step (fail)
                go_big_quiet_step (fail)
                go_big_quiet_step (fail)
                go_big_quiet_step (fail)
                go_big_quiet_step (fail)
                refine wpQuiet_nil ?_
                intro _ hw'
                obtain ⟨⟨dq, osq⟩, hw3⟩ := hw'
                subst hw3
                have BQ : Below w3.heap.size w3 (Go.Sort.grow (redrawn wz dq) osq) := keepT BZ (below_regrown wz dq osq)
                clear r0
                clear r1
                clear r2
                clear r3
                clear r4
                clear r5
                clear r6
                clear r7
                clear r8
                go_wp2
                go_roundw
                case rel => exact ⟨k + 1, _, by omega, by go_num, rfl, HGN, BQ⟩
                case measure => simp [intOf]; omega
              have d1 : (c1.key == kd) = true := by simp [t1]
              by_cases t2 : freshP c1.at2 now age
              case neg =>
                have HGN : Hid (false = (cs.take (k + 1)).any (wsB x now age p)) := by show _ = _; rw [HTK.out]; unfold wsB; rw [decide_eq_false t2]; simp
                have d2 := decide_eq_false t2
                have ca : Hid (∀ d os, Calls Tryz.prog 19 #[.int .i64 c1.at2, .int .i64 now, .int .i64 age] (Go.Sort.grow (redrawn wz d) os) fun e w'' => e = .returned (.bool false) ∧ ∃ p : Regrown, w'' = Go.Sort.grow (redrawn wz p.d) p.os) := fun d os => Calls.regrown_of (by have h := l16Fresh_any c1.at2 now age (Go.Sort.grow (redrawn wz d) os); rw [d2] at h; exact h.mono (fun e w1 ⟨he, hw⟩ => ⟨he, by rw [hw]; exact Below.refl _ _⟩))
                obtain ⟨y0, y1, y2, y3, y4, y5, y6, y7, y8⟩ := HCZ.out wz (Below.refl _ _)
                clear t1 t2
                have r0 := cell_regrown y0
                have r1 := cell_regrown y1
                have r2 := cell_regrown y2
                have r3 := cell_regrown y3
                have r4 := cell_regrown y4
                have r5 := cell_regrown y5
                have r6 := cell_regrown y6
                have r7 := cell_regrown y7
                have r8 := cell_regrown y8
                clear y0 y1 y2 y3 y4 y5 y6 y7 y8
                go_upto_region 19 with fail
                rw [← HWZ.out]
                refine wp_region_quiet_below (by kernel_rfl) (by kernel_rfl) ?_
                go_big_quiet_step (fail)
                go_big_quiet_step (fail)
                go_big_quiet_step (fail)
                go_big_quiet_step (fail)
                go_big_quiet_step (fail)
                go_big_quiet_step (fail)
                go_big_quiet_step (fail)
                go_big_quiet_step (fail)
                go_big_quiet_step (fail)
                go_big_quiet_step (exact ca.out _ _)
                go_big_quiet_step (fail)
                go_big_quiet_step (fail)
                go_big_quiet_step (fail)
                go_big_quiet_step (fail)
                go_big_quiet_step (fail)
                go_big_quiet_step (fail)
                go_big_quiet_step (fail)
                go_big_quiet_step (fail)
                go_big_quiet_step (fail)
                go_big_quiet_step (fail)
                go_big_quiet_step (fail)
                go_big_quiet_step (fail)
                go_big_quiet_step (fail)
                go_big_quiet_step (fail)
                go_big_quiet_step (fail)
                go_big_quiet_step (fail)
                go_big_quiet_step (fail)
                go_big_quiet_step (fail)
                go_big_quiet_step (fail)
                go_big_quiet_step (fail)
                refine wpQuiet_nil ?_
                intro _ hw'
                obtain ⟨⟨dq, osq⟩, hw3⟩ := hw'
                subst hw3
                have BQ : Below w3.heap.size w3 (Go.Sort.grow (redrawn wz dq) osq) := keepT BZ (below_regrown wz dq osq)
                clear r0
                clear r1
                clear r2
                clear r3
                clear r4
                clear r5
                clear r6
                clear r7
                clear r8
                go_wp2
                go_roundw
                case rel => exact ⟨k + 1, _, by omega, by go_num, rfl, HGN, BQ⟩
                case measure => simp [intOf]; omega
              have d2 := decide_eq_true t2
              obtain ⟨vq, hvq⟩ : ∃ vq, vq = vfB x p c1 := ⟨_, rfl⟩
              have HVQ : Hid (vfB x p c1 = vq) := hvq.symm
              have HGN : Hid (vq = (cs.take (k + 1)).any (wsB x now age p)) := by show _ = _; rw [HTK.out]; unfold wsB; rw [decide_eq_true (by rw [← HKD.out]; exact t1), d2, hvq]; simp
              have HL7 : Hid (enc 12 (hdI 7 x.lg x.sz x.rt c1.at2) = some (l7Of x c1.at2)) := (l7Of_enc x c1.at2).1
              clear t1 t2 hvq
              go_upto_region 19 with fail
              rw [← HWZ.out]
              have hcz : Below wz.heap.size wz wz.drew := (Below.refl _ _).drew
              have SS0 := HCZ.out _ hcz
              go_region_held3 (fun W => W.cell? ⟨wr.heap.size, 0, none⟩ = some (.int .u64 c1.key) ∧ W.cell? ⟨wr.heap.size, 1, none⟩ = some (.int .i64 c1.at2) ∧ W.cell? ⟨wr.heap.size, 2, none⟩ = some (.slice a1 n1 e1) ∧ W.cell? ⟨w.heap.size, 0, none⟩ = some (.int .i64 x.lg) ∧ W.cell? ⟨w.heap.size, 1, none⟩ = some (.int .i64 x.sz) ∧ W.cell? ⟨w.heap.size, 2, none⟩ = some (.int .u64 x.rt) ∧ W.cell? ⟨pb, po + j * 3, none⟩ = some (.int .i64 p.1) ∧ W.cell? ⟨pb, po + j * 3 + 1, none⟩ = some (.int .u64 p.2.1) ∧ W.cell? ⟨pb, po + j * 3 + 2, none⟩ = some (.int .i64 p.2.2)) (first | assumption | exact SS0 | exact SSz | exact SS2 | exact SS4)
                (first
                  | (go_at_call 19; ((with_reducible refine (l16Fresh_any c1.at2 now age wz.drew).mono ?_); rw [d2]; rintro e w5 ⟨rfl, hz⟩; have B5 : Below wz.heap.size wz w5 := (by rw [hz]; exact hcz); have SSz := HCZ.out _ B5; clear hz))
                  | (go_at_call 23; ((with_reducible refine (l16Body_any 7 x.lg x.sz x.rt c1.at2 (l7Of x c1.at2) w5 hX3 HL7.out).mono ?_); rintro e w6 ⟨a6, c6, rfl, ho6, hb6⟩; have B6 : Below wz.heap.size wz w6 := keepT B5 hb6; have SS2 := HCZ.out _ B6; have R6 : Hid (Row w6 a6 (l7Of x c1.at2).length (l7Of x c1.at2)) := ho6.toRow; have hn6 : a6 = none → c6 = 0 := ho6.nil; clear ho6))
                  | (go_at_call 22; ((with_reducible refine (specVerify_cg x p c1 a6 c6 a1 n1 e1 w6 hyp R6.out hn6 ((HCR.out.kept hbz).kept B6) hK.2 hK.1).mono ?_); rw [HVQ.out]; rintro e w7 ⟨rfl, hb7⟩; have B7 : Below wz.heap.size wz w7 := keepT B6 hb7; have SS4 := HCZ.out _ B7; have BQ : Below w3.heap.size w3 w7 := keepT BZ B7)))
              all_goals (
                go_wp2_with fail
                go_roundw
                case rel => exact ⟨k + 1, vq, by omega, by go_num, rfl, HGN, BQ⟩
                case measure => simp [intOf]; omega)
            · have HANY : Hid (anyB x now age cs p = g) := by
                show _ = _
                unfold anyB
                by_cases hk2 : k < n
                · have hgt : g = true := by cases g with | true => rfl | false => exact absurd ⟨hk2, rfl⟩ hgo
                  subst hgt
                  rw [List.any_eq_true]
                  have h1 := HG.out.symm
                  rw [List.any_eq_true] at h1
                  obtain ⟨y1, h2, h3⟩ := h1
                  exact ⟨y1, List.mem_of_mem_take h2, h3⟩
                · have h1 := HG.out
                  rw [List.take_of_length_le (by rw [HLC.out]; omega)] at h1
                  exact h1.symm
              have BWX : Below wb.heap.size wb wr := keepT BW3 hbk
              have HOWX : Hid (OwnU w0.heap.size wr ao q cc zs) := HOW3.out.kept hbk
              cases g with
              | false =>
                have hkn : ¬ k < n := fun h => hgo ⟨h, rfl⟩
                have hkni : ¬ (k : Int) < (n : Int) := by omega
                have HZ : Hid (cntL x now age cs (ps.take (j + 1)) = zs) := by show _ = _; rw [HNX.out, HST.out, if_neg hin, HANY.out]; rfl
                clear hgo
                go_wp2
                go_roundw
                case rel => exact ⟨j + 1, q, cc, ao, by omega, by go_num, rfl, rfl, by omega, by show OwnU _ _ _ _ _ _; rw [HZ.out]; exact HOWX.out, keepT BW0 hbk⟩
                case measure => simp [intOf]; omega
              | true =>
                have HZ : Hid (cntL x now age cs (ps.take (j + 1)) = zs ++ [kd]) := by show _ = _; rw [HNX.out, HST.out, if_neg hin, HANY.out]; rfl
                have hal : Below wr.heap.size wr (wr.alloc (.cells #[.int .u64 kd] 22)) := (Below.refl _ _).alloc (Nat.le_refl _) _
                have hor := HOWX.out.kept hal
                have B6 : Below w0.heap.size w0 (wr.alloc (.cells #[.int .u64 kd] 22)) := keepT (keepT BW0 hbk) hal
                have hs6 := B6.size
                have hcl := cell_oneU wr kd
                clear hgo
                by_cases hk2 : k < n
                · have hkni : (k : Int) < (n : Int) := by omega
                  go_wp2_with (first | (at_builtin; refine wpList_append_own _ rfl (.tmp 101) (.tmp 103) 52 rfl w0.heap.size 22 i0 _ 1 8 Tryz.underlying52 hi hz0 hz1 hz2 rfl (by decide) _ q _ rfl hor.row ⟨wr.heap.size, 0, none⟩ 1 1 ([kd].map (Value.int .u64)) rfl rfl hcl (ints_oneCell .u64 [kd]) (by unfold maxLen; omega) (by omega) (by exact hs6) ?_; intro v7 w7 hv7 hg7 _))
                  rw [← List.map_append] at hv7
                  obtain ⟨a7, c7, rfl, ho7⟩ := ownU_appended (u64_snoc hor.rng HKU.out) hv7
                  have B7 : Below w0.heap.size w0 w7 := B6.grown hg7 hs6 (fun kx hx => (hor.row.lt kx hx).1)
                  have HO7 : Hid (OwnU w0.heap.size w7 a7 (q + 1) c7 (cntL x now age cs (ps.take (j + 1)))) := by show OwnU _ _ _ _ _ _; rw [HZ.out]; exact ho7
                  clear ho7 hv7 hg7 hor hcl
                  go_roundw
                  case rel => exact ⟨j + 1, q + 1, c7, a7, by omega, by go_num, rfl, by go_num, by omega, HO7, B7⟩
                  case measure => simp [intOf]; omega
                · have hkni : ¬ (k : Int) < (n : Int) := by omega
                  go_wp2_with (first | (at_builtin; refine wpList_append_own _ rfl (.tmp 101) (.tmp 103) 52 rfl w0.heap.size 22 i0 _ 1 8 Tryz.underlying52 hi hz0 hz1 hz2 rfl (by decide) _ q _ rfl hor.row ⟨wr.heap.size, 0, none⟩ 1 1 ([kd].map (Value.int .u64)) rfl rfl hcl (ints_oneCell .u64 [kd]) (by unfold maxLen; omega) (by omega) (by exact hs6) ?_; intro v7 w7 hv7 hg7 _))
                  rw [← List.map_append] at hv7
                  obtain ⟨a7, c7, rfl, ho7⟩ := ownU_appended (u64_snoc hor.rng HKU.out) hv7
                  have B7 : Below w0.heap.size w0 w7 := B6.grown hg7 hs6 (fun kx hx => (hor.row.lt kx hx).1)
                  have HO7 : Hid (OwnU w0.heap.size w7 a7 (q + 1) c7 (cntL x now age cs (ps.take (j + 1)))) := by show OwnU _ _ _ _ _ _; rw [HZ.out]; exact ho7
                  clear ho7 hv7 hg7 hor hcl
                  go_roundw
                  case rel => exact ⟨j + 1, q + 1, c7, a7, by omega, by go_num, rfl, by go_num, by omega, HO7, B7⟩
                  case measure => simp [intOf]; omega
      · obtain rfl : j = m := by omega
        have HE : Hid ((cntL x now age cs ps).length = q) := by
          show _ = _
          have h := HOW.out.len
          rw [List.take_of_length_le (by rw [HLP.out]; exact Nat.le_refl _)] at h
          exact h
        have HFN := keepT HBB.out BWR
        have hLq : L = (q : Int) := by rw [hL, HE.out]
        by_cases hle : L < least
        · have HV : Hid (hcV true x cs ps least now age = 3) := by show _ = _; unfold hcV; rw [if_neg (by decide), if_pos hf, if_neg (by rw [HLC.out, HLP.out]; omega), ← hL, if_pos hle]
          rw [hLq] at hle
          clear hL hLq
          go_wp2
          go_ret
          exact ⟨by rw [HV.out]; rfl, HFN⟩
        · have HV : Hid (hcV true x cs ps least now age = 0) := by show _ = _; unfold hcV; rw [if_neg (by decide), if_pos hf, if_neg (by rw [HLC.out, HLP.out]; omega), ← hL, if_neg hle]
          rw [hLq] at hle
          clear hL hLq
          go_wp2
          go_ret
          exact ⟨by rw [HV.out]; rfl, HFN⟩

end Go.Proofs.YtambgfmipfmkdaaGreat

namespace Go.Proofs.YtambgfmipfmkdaaGreat
open Go.RowKit

set_option maxRecDepth 10000 in
set_option maxHeartbeats 16000000 in
theorem lawHeadCheck_walk (x : HP) (xa : Option Addr) (xn xc : Nat) (sc y hh : Int) (a : Option Addr) (n c : Nat) (cs : List CgP) (b : Option Addr) (m d : Nat) (ps : List (Int × Int × Int)) (least now age : Int) (w : World) (hu : U64 x.rt) (hxr : Row w xa xn x.sg) (hxm : xn ≤ 9223372036854775807) (hy : U64 y) (h : Cgs (fun _ _ => True) w a n cs) (hp : RowPu w b m ps) (hmm : m ≤ 9223372036854775807) (h64 : ∀ j, (ps.getD j (0, 0, 0)).1 ≤ 9223372036854775807 ∧ (ps.getD j (0, 0, 0)).2.2 ≤ 9223372036854775807) :
    Calls Tryz.prog 3 #[.agg #[.int .i64 x.lg, .int .i64 x.sz, .int .u64 x.rt, .int .i64 x.at2, .slice xa xn xc], .agg #[.int .i64 sc, .int .u64 y, .int .i64 hh], .slice a n c, .slice b m d, .int .i64 least, .int .i64 now, .int .i64 age] w fun e w' => e = .returned (.bool true) ∧ Below w.heap.size w w' := by
  obtain ⟨q, hq⟩ : ∃ q, q = hcV (sgB sc y hh x) x cs ps least now age := ⟨_, rfl⟩
  have HQ : Hid (hcV (sgB sc y hh x) x cs ps least now age = q) := hq.symm
  obtain ⟨wb, hwb⟩ : ∃ wb, wb = (w.alloc (.cells #[.int .i64 x.lg, .int .i64 x.sz, .int .u64 x.rt, .int .i64 x.at2, .slice xa xn xc] 25)).alloc (.cells #[.int .i64 sc, .int .u64 y, .int .i64 hh] 27) := ⟨_, rfl⟩
  have hbb : Below w.heap.size w wb := by rw [hwb]; exact ((Below.refl _ _).alloc (Nat.le_refl _) _).alloc (by simp) _
  have hsz : wb.heap.size = w.heap.size + 2 := by rw [hwb]; simp
  have s1 : (w.alloc (.cells #[.int .i64 x.lg, .int .i64 x.sz, .int .u64 x.rt, .int .i64 x.at2, .slice xa xn xc] 25)).heap.size = w.heap.size + 1 := by simp
  have hk0 : wb.heap[w.heap.size]? = some (.cells #[.int .i64 x.lg, .int .i64 x.sz, .int .u64 x.rt, .int .i64 x.at2, .slice xa xn xc] 25 (0, 0)) := by rw [hwb]; exact (alloc_oldT _ _ _ (by simp)).trans (heap_alloc_new w _)
  have hk1 : wb.heap[w.heap.size + 1]? = some (.cells #[.int .i64 sc, .int .u64 y, .int .i64 hh] 27 (0, 0)) := by rw [hwb, ← s1]; exact heap_alloc_new _ _
  have HC : Hid (∀ W, Below wb.heap.size wb W → (W.cell? ⟨w.heap.size, 0, none⟩ = some (.int .i64 x.lg) ∧ W.cell? ⟨w.heap.size, 1, none⟩ = some (.int .i64 x.sz) ∧ W.cell? ⟨w.heap.size, 2, none⟩ = some (.int .u64 x.rt) ∧ W.cell? ⟨w.heap.size, 3, none⟩ = some (.int .i64 x.at2) ∧ W.cell? ⟨w.heap.size, 4, none⟩ = some (.slice xa xn xc)) ∧ (W.cell? ⟨w.heap.size + 1, 0, none⟩ = some (.int .i64 sc) ∧ W.cell? ⟨w.heap.size + 1, 1, none⟩ = some (.int .u64 y) ∧ W.cell? ⟨w.heap.size + 1, 2, none⟩ = some (.int .i64 hh))) := by
    intro W hW
    have b0 := (hW.block _ (by omega)).trans hk0
    have b1 := (hW.block _ (by omega)).trans hk1
    exact ⟨⟨(cell_of_row _ _ 0 _ 25 (0, 0) b0).trans rfl, (cell_of_row _ _ 1 _ 25 (0, 0) b0).trans rfl, (cell_of_row _ _ 2 _ 25 (0, 0) b0).trans rfl, (cell_of_row _ _ 3 _ 25 (0, 0) b0).trans rfl, (cell_of_row _ _ 4 _ 25 (0, 0) b0).trans rfl⟩, ⟨(cell_of_row _ _ 0 _ 27 (0, 0) b1).trans rfl, (cell_of_row _ _ 1 _ 27 (0, 0) b1).trans rfl, (cell_of_row _ _ 2 _ 27 (0, 0) b1).trans rfl⟩⟩
  have HBB : Hid (Below w.heap.size w wb) := hbb
  have HG : Hid (Row wb xa xn x.sg) := hxr.kept hbb
  have HCG : Hid (Cgs (fun _ _ => True) wb a n cs) := h.kept hbb
  have HPU : Hid (RowPu wb b m ps) := hp.kept hbb
  have H64 : Hid (∀ j, (ps.getD j (0, 0, 0)).1 ≤ 9223372036854775807 ∧ (ps.getD j (0, 0, 0)).2.2 ≤ 9223372036854775807) := h64
  clear hbb hk0 hk1 s1 hxr hq h hp h64
  obtain ⟨⟨u0, u1, u2, u3, u4⟩, _⟩ := HC.out wb (Below.refl _ _)
  go_enter Tryz.func3, Tryz.ntmps3
  go_upto_region 1 with fail
  rw [← hwb]
  clear hwb
  go_wp2_with fail
  refine (szHead_gen x xa xn xc 1048576 _ hxm (by decide) (by decide)).mono ?_
  rintro e w1 ⟨r, rfl, hr, hb1⟩
  clear u0 u1 u2 u3 u4
  by_cases hneg : r < 0
  · clear hr
    go_wp2
    go_ret
    exact ⟨rfl, keepT HBB.out hb1⟩
  have hr1 : 0 ≤ r ∧ r ≤ 1048576 := by omega
  have hxn : xn ≤ 1048576 := by omega
  have HC1 : Hid (Cgs (fun _ _ => True) w1 a n cs) := HCG.out.kept hb1
  clear hr
  go_wp2_with fail
  refine (szCosigS_any _ a n c cs r _ HC1.out hr1.1 hr1.2).mono ?_
  rintro e w2 ⟨r2, rfl, hr2, hb2⟩
  have B2 : Below wb.heap.size wb w2 := keepT hb1 hb2
  by_cases hneg2 : r2 < 0
  · clear hr2
    go_wp2
    go_ret
    exact ⟨rfl, keepT HBB.out B2⟩
  have hr3 : 0 ≤ r2 ∧ r2 ≤ 1048576 := by omega
  have hn : n ≤ 1048576 := by omega
  have HZ : Hid (∀ k, k < n → (cs.getD k default).sg.length ≤ 1048576) := by
    rcases hr2 with hr2 | hr2
    · exact absurd hr2 hneg2
    · exact hr2.2.2.2
  clear hr2 HC1 hneg
  go_wp2_with fail
  refine (szPuS_any b m d r2 _ hmm hr3.1 hr3.2).mono ?_
  rintro e w3 ⟨rfl, hw3⟩
  have hw4 := hw3.symm
  subst hw4
  by_cases hm0 : r2 < (m : Int)
  · rw [if_pos hm0]
    clear hm0
    go_wp2
    go_ret
    exact ⟨rfl, keepT HBB.out B2⟩
  rw [if_neg hm0]
  obtain ⟨r5, hr5⟩ : ∃ r5, r5 = r2 - (m : Int) := ⟨_, rfl⟩
  rw [← hr5]
  have hr6 : ¬ r5 < 0 := by omega
  have hm : m ≤ 1048576 := by omega
  clear hr5 hm0 hneg2 hb2 hw3
  go_upto_region 11 with fail
  have hcur : Below wb.heap.size wb w2.drew := keepT B2 (Below.refl _ _).drew
  have SS0 := HC.out _ hcur
  go_cut [16] (fun v wx => v = .int .i64 q ∧ Below wb.heap.size wb wx)
  case first =>
    go_region_held3 (fun W => (W.cell? ⟨w.heap.size, 0, none⟩ = some (.int .i64 x.lg) ∧ W.cell? ⟨w.heap.size, 1, none⟩ = some (.int .i64 x.sz) ∧ W.cell? ⟨w.heap.size, 2, none⟩ = some (.int .u64 x.rt) ∧ W.cell? ⟨w.heap.size, 3, none⟩ = some (.int .i64 x.at2) ∧ W.cell? ⟨w.heap.size, 4, none⟩ = some (.slice xa xn xc)) ∧ (W.cell? ⟨w.heap.size + 1, 0, none⟩ = some (.int .i64 sc) ∧ W.cell? ⟨w.heap.size + 1, 1, none⟩ = some (.int .u64 y) ∧ W.cell? ⟨w.heap.size + 1, 2, none⟩ = some (.int .i64 hh))) (first | assumption | exact SS0 | exact SS1 | exact SS2 | exact SS3 | exact SS4 | exact SS5)
      (first
        | (go_at_call 8; ((with_reducible refine (toHead_hp x xa xn xc w2.drew (HG.out.kept hcur) hxn).mono ?_); rintro e w4 ⟨a4, rfl, ho4, hb4⟩; have B4 : Below wb.heap.size wb w4 := keepT hcur hb4; have SS1 := HC.out _ B4; have R4 : Hid (Row w4 a4 xn x.sg) := ho4.toRow; clear ho4))
        | (go_at_call 9; ((with_reducible refine (toPub_agg sc y hh w4).mono ?_); rintro e w5 ⟨rfl, hb5⟩; have B5 : Below wb.heap.size wb w5 := keepT B4 hb5; have SS2 := HC.out _ B5; have R5 : Hid (Row w5 a4 xn x.sg) := R4.out.kept hb5))
        | (go_at_call 10; ((with_reducible refine (toCosigS_any _ a n c cs w5 (HCG.out.kept B5) hn HZ.out).mono ?_); rintro e w6 ⟨a6, rfl, ho6, hb6⟩; have B6 : Below wb.heap.size wb w6 := keepT B5 hb6; have SS3 := HC.out _ B6; have R6 : Hid (Row w6 a4 xn x.sg) := R5.out.kept hb6; have Q6 : Hid (Cgs (fun n c => n ≤ c ∧ n ≤ 1048576) w6 a6 n cs) := ho6; clear ho6))
        | (go_at_call 11; ((with_reducible refine (toPuS_any b m d ps w6 (HPU.out.kept B6) hm).mono ?_); rintro e w7 ⟨a7, rfl, ho7, hb7⟩; have B7 : Below wb.heap.size wb w7 := keepT B6 hb7; have SS4 := HC.out _ B7; have R7 : Hid (Row w7 a4 xn x.sg) := R6.out.kept hb7; have Q7 : Hid (Cgs (fun n c => n ≤ c ∧ n ≤ 1048576) w7 a6 n cs) := Q6.out.kept hb7; have P7 : Hid (RowPu w7 a7 m ps) := ho7.toRow; clear ho7))
        | (go_at_call 7; ((with_reducible refine (specHeadCheck_any x a4 xn xn sc y hh cs a6 n n ps a7 m m least now age w7 R7.out hxn (Nat.le_refl _) hu hy Q7.out P7.out hmm H64.out).mono ?_); rw [HQ.out]; rintro e w8 ⟨rfl, hb8⟩; have B8 : Below wb.heap.size wb w8 := keepT B7 hb8; have SS5 := HC.out _ B8)))
    all_goals (
      go_wp2_with fail
      go_meet
      exact ⟨rfl, B8⟩)
  case rest =>
    obtain ⟨rfl, B5⟩ := hcut
    clear SS0 hcur hb1 B2 hr6
    obtain ⟨⟨u0, u1, u2, u3, u4⟩, _⟩ := HC.out wc B5
    go_wp2_with fail
    refine (toHead_hp x xa xn xc _ (HG.out.kept B5) hxn).mono ?_
    rintro e w6 ⟨a6, rfl, ho6, hb6⟩
    have B6 : Below wb.heap.size wb w6 := keepT B5 hb6
    obtain ⟨wd, hwd⟩ : ∃ wd, wd = w6.alloc (.cells #[.int .i64 x.lg, .int .i64 x.sz, .int .u64 x.rt, .int .i64 x.at2, .slice a6 xn xn] 34) := ⟨_, rfl⟩
    have bd6 : Below w6.heap.size w6 wd := by rw [hwd]; exact (Below.refl _ _).alloc (Nat.le_refl _) _
    have hkd : wd.heap[w6.heap.size]? = some (.cells #[.int .i64 x.lg, .int .i64 x.sz, .int .u64 x.rt, .int .i64 x.at2, .slice a6 xn xn] 34 (0, 0)) := by rw [hwd]; exact heap_alloc_new w6 _
    have Bd : Below wb.heap.size wb wd := keepT B6 bd6
    have HD : Hid (Row wd a6 xn x.sg) := ho6.toRow.kept bd6
    have hsd : w6.heap.size < wd.heap.size := (Array.getElem?_eq_some_iff.1 hkd).1
    have HE : Hid (∀ W, Below wd.heap.size wd W → W.cell? ⟨w6.heap.size, 0, none⟩ = some (.int .i64 x.lg) ∧ W.cell? ⟨w6.heap.size, 1, none⟩ = some (.int .i64 x.sz) ∧ W.cell? ⟨w6.heap.size, 2, none⟩ = some (.int .u64 x.rt) ∧ W.cell? ⟨w6.heap.size, 3, none⟩ = some (.int .i64 x.at2) ∧ W.cell? ⟨w6.heap.size, 4, none⟩ = some (.slice a6 xn xn)) := by
      intro W hW
      have b0 := (hW.block _ hsd).trans hkd
      exact ⟨(cell_of_row _ _ 0 _ 34 (0, 0) b0).trans rfl, (cell_of_row _ _ 1 _ 34 (0, 0) b0).trans rfl, (cell_of_row _ _ 2 _ 34 (0, 0) b0).trans rfl, (cell_of_row _ _ 3 _ 34 (0, 0) b0).trans rfl, (cell_of_row _ _ 4 _ 34 (0, 0) b0).trans rfl⟩
    have HWD : Hid (_ = _) := hwd
    clear ho6 bd6 hkd hb6 hwd u0 u1 u2 u3 u4
    go_wp2_with fail
    rw [← HWD.out]
    clear HWD
    refine (toCosigS_any _ a n c cs _ (HCG.out.kept Bd) hn HZ.out).mono ?_
    rintro e w7 ⟨a7, rfl, ho7, hb7⟩
    have Q7 : Hid (Cgs (fun n c => n ≤ c ∧ n ≤ 1048576) w7 a7 n cs) := ho7
    clear ho7
    go_wp2_with fail
    refine (toPuS_any b m d ps _ (HPU.out.kept (keepT Bd hb7)) hm).mono ?_
    rintro e w8 ⟨a8, rfl, ho8, hb8⟩
    have Q8 : Hid (Cgs (fun n c => n ≤ c ∧ n ≤ 1048576) w8 a7 n cs) := Q7.out.kept hb8
    have P8 : Hid (RowPu w8 a8 m ps) := ho8.toRow
    have Bd8 : Below wd.heap.size wd w8 := keepT hb7 hb8
    have HD8 : Hid (Row w8 a6 xn x.sg) := HD.out.kept Bd8
    clear ho8 Q7 hb7 hb8
    go_upto_region 15 with fail
    have hcd : Below w8.heap.size w8 w8.drew := (Below.refl _ _).drew
    have SM0 : (w8.drew.cell? ⟨w6.heap.size, 0, none⟩ = some (.int .i64 x.lg) ∧ w8.drew.cell? ⟨w6.heap.size, 1, none⟩ = some (.int .i64 x.sz) ∧ w8.drew.cell? ⟨w6.heap.size, 2, none⟩ = some (.int .u64 x.rt) ∧ w8.drew.cell? ⟨w6.heap.size, 3, none⟩ = some (.int .i64 x.at2) ∧ w8.drew.cell? ⟨w6.heap.size, 4, none⟩ = some (.slice a6 xn xn)) ∧ (w8.drew.cell? ⟨w.heap.size + 1, 0, none⟩ = some (.int .i64 sc) ∧ w8.drew.cell? ⟨w.heap.size + 1, 1, none⟩ = some (.int .u64 y) ∧ w8.drew.cell? ⟨w.heap.size + 1, 2, none⟩ = some (.int .i64 hh)) := ⟨HE.out _ (keepT Bd8 hcd), (HC.out _ (keepT Bd (keepT Bd8 hcd))).2⟩
    go_cut [20] (fun v wx => v = .int .i64 q ∧ Below w8.heap.size w8 wx)
    case first =>
      go_region_held3 (fun W => (W.cell? ⟨w6.heap.size, 0, none⟩ = some (.int .i64 x.lg) ∧ W.cell? ⟨w6.heap.size, 1, none⟩ = some (.int .i64 x.sz) ∧ W.cell? ⟨w6.heap.size, 2, none⟩ = some (.int .u64 x.rt) ∧ W.cell? ⟨w6.heap.size, 3, none⟩ = some (.int .i64 x.at2) ∧ W.cell? ⟨w6.heap.size, 4, none⟩ = some (.slice a6 xn xn)) ∧ (W.cell? ⟨w.heap.size + 1, 0, none⟩ = some (.int .i64 sc) ∧ W.cell? ⟨w.heap.size + 1, 1, none⟩ = some (.int .u64 y) ∧ W.cell? ⟨w.heap.size + 1, 2, none⟩ = some (.int .i64 hh))) (first | assumption | exact SM0 | exact SM1 | exact SM2)
        (first
          | (go_at_call 9; ((with_reducible refine (toPub_agg sc y hh w8.drew).mono ?_); rintro e w9 ⟨rfl, hb9⟩; have B9 : Below w8.heap.size w8 w9 := keepT hcd hb9; have SM1 := And.intro (HE.out _ (keepT Bd8 B9)) (HC.out _ (keepT Bd (keepT Bd8 B9))).2))
          | (go_at_call 12; ((with_reducible refine (implHeadCheck_any x a6 xn xn sc y hh cs a7 n n ps a8 m m least now age w9 (HD8.out.kept B9) hxn (Nat.le_refl _) hu hy (Q8.out.kept B9) (P8.out.kept B9) hmm H64.out).mono ?_); rw [HQ.out]; rintro e w10 ⟨rfl, hb10⟩; have B10 : Below w8.heap.size w8 w10 := keepT B9 hb10; have SM2 := And.intro (HE.out _ (keepT Bd8 B10)) (HC.out _ (keepT Bd (keepT Bd8 B10))).2)))
      all_goals (
        go_wp2_with fail
        go_meet
        exact ⟨rfl, B10⟩)
    case rest =>
      obtain ⟨rfl, B9⟩ := hcut
      clear SM0 hcd
      have z1 : (q != q) = false := by simp
      go_upto_region 18 with fail
      have hce : Below w8.heap.size w8 wc.drew := keepT B9 (Below.refl _ _).drew
      have SN0 : (wc.drew.cell? ⟨w6.heap.size, 0, none⟩ = some (.int .i64 x.lg) ∧ wc.drew.cell? ⟨w6.heap.size, 1, none⟩ = some (.int .i64 x.sz) ∧ wc.drew.cell? ⟨w6.heap.size, 2, none⟩ = some (.int .u64 x.rt) ∧ wc.drew.cell? ⟨w6.heap.size, 3, none⟩ = some (.int .i64 x.at2) ∧ wc.drew.cell? ⟨w6.heap.size, 4, none⟩ = some (.slice a6 xn xn)) ∧ (wc.drew.cell? ⟨w.heap.size, 0, none⟩ = some (.int .i64 x.lg) ∧ wc.drew.cell? ⟨w.heap.size, 1, none⟩ = some (.int .i64 x.sz) ∧ wc.drew.cell? ⟨w.heap.size, 2, none⟩ = some (.int .u64 x.rt) ∧ wc.drew.cell? ⟨w.heap.size, 3, none⟩ = some (.int .i64 x.at2) ∧ wc.drew.cell? ⟨w.heap.size, 4, none⟩ = some (.slice xa xn xc)) := ⟨HE.out _ (keepT Bd8 hce), (HC.out _ (keepT Bd (keepT Bd8 hce))).1⟩
      go_cut [70] (fun v wx => v = .bool false ∧ Below w8.heap.size w8 wx)
      case first =>
        go_region_held3 (fun W => (W.cell? ⟨w6.heap.size, 0, none⟩ = some (.int .i64 x.lg) ∧ W.cell? ⟨w6.heap.size, 1, none⟩ = some (.int .i64 x.sz) ∧ W.cell? ⟨w6.heap.size, 2, none⟩ = some (.int .u64 x.rt) ∧ W.cell? ⟨w6.heap.size, 3, none⟩ = some (.int .i64 x.at2) ∧ W.cell? ⟨w6.heap.size, 4, none⟩ = some (.slice a6 xn xn)) ∧ (W.cell? ⟨w.heap.size, 0, none⟩ = some (.int .i64 x.lg) ∧ W.cell? ⟨w.heap.size, 1, none⟩ = some (.int .i64 x.sz) ∧ W.cell? ⟨w.heap.size, 2, none⟩ = some (.int .u64 x.rt) ∧ W.cell? ⟨w.heap.size, 3, none⟩ = some (.int .i64 x.at2) ∧ W.cell? ⟨w.heap.size, 4, none⟩ = some (.slice xa xn xc))) (first | assumption | exact SN0 | exact SN1 | exact SN2)
          (first
            | (go_at_call 8; ((with_reducible refine (toHead_hp x xa xn xc wc.drew (HG.out.kept (keepT Bd (keepT Bd8 hce))) hxn).mono ?_); rintro e w10 ⟨a10, rfl, ho10, hb10⟩; have B10 : Below w8.heap.size w8 w10 := keepT hce hb10; have SN1 := And.intro (HE.out _ (keepT Bd8 B10)) (HC.out _ (keepT Bd (keepT Bd8 B10))).1; have R10 : Hid (Row w10 a10 xn x.sg) := ho10.toRow; clear ho10))
            | (go_at_call 13; ((with_reducible refine (eqHead_hp x a6 a10 xn xn xn w10 (HD8.out.kept B10) R10.out (by unfold maxLen; omega)).mono ?_); rintro e w11 ⟨rfl, hb11⟩; have B11 : Below w8.heap.size w8 w11 := keepT B10 hb11; have SN2 := And.intro (HE.out _ (keepT Bd8 B11)) (HC.out _ (keepT Bd (keepT Bd8 B11))).1)))
        all_goals (
          go_wp2_with fail
          go_meet
          exact ⟨rfl, B11⟩)
      case rest =>
        obtain ⟨rfl, B11⟩ := hcut
        clear SN0 hce
        go_wp2_with fail
        refine (toCosigS_any _ a n c cs _ (HCG.out.kept (keepT Bd (keepT Bd8 B11))) hn HZ.out).mono ?_
        rintro e w12 ⟨a12, rfl, ho12, hb12⟩
        have B12 : Below w8.heap.size w8 w12 := keepT B11 hb12
        have Q12 : Hid (Cgs (fun n c => n ≤ c ∧ n ≤ 1048576) w12 a12 n cs) := ho12
        clear ho12
        go_wp2_with fail
        refine (eqCosigS_same _ _ a7 a12 n n n cs _ (Q8.out.kept B12) Q12.out).mono ?_
        rintro e w13 ⟨rfl, hb13⟩
        have B13 : Below w8.heap.size w8 w13 := keepT B12 hb13
        clear Q12
        go_wp2_with fail
        refine (toPuS_any b m d ps _ (HPU.out.kept (keepT Bd (keepT Bd8 B13))) hm).mono ?_
        rintro e w14 ⟨a14, rfl, ho14, hb14⟩
        have B14 : Below w8.heap.size w8 w14 := keepT B13 hb14
        have P14 : Hid (RowPu w14 a14 m ps) := ho14.toRow
        clear ho14
        go_wp2_with fail
        refine (eqPuS_same a8 a14 m m m ps _ (P8.out.kept B14) P14.out hmm).mono ?_
        rintro e w15 ⟨rfl, hb15⟩
        have FIN : Hid (Below w.heap.size w w15) := keepT HBB.out (keepT Bd (keepT Bd8 (keepT B14 hb15)))
        go_wp2_with fail
        go_ret
        exact ⟨rfl, FIN.out⟩

end Go.Proofs.YtambgfmipfmkdaaGreat

