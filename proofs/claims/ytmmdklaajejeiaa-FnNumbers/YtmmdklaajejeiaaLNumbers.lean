import Derived.Test.YtmmdklaajejeiaaW3
import Derived.Test.YtmmdklaajejeiaaW5
import Derived.Test.YtmmdklaajejeiaaWL1
import Derived.Test.YtmmdklaajejeiaaWRd
namespace Go.Proofs.Ytmmdklaajejeiaa
open Go.RowKit

theorem Try.info2 : (Try.prog.info? 2).map (fun i => (i.zero, i.size, i.bytes)) = some (some (.int .i64 0), 1, 8) := by kernel_rfl

theorem getL_put (n c : Nat) (hn : n < 9223372036854775808) (rest : List Int) : ∀ d, 1 ≤ d → d ≤ c → ∀ p : Int, getL ((putL n c).drop (c - d) ++ rest) ((n / 128 ^ d : Nat) : Int) p = ((n : Int), p + d, 0) := by
  intro d
  induction d with
  | zero => intro h; omega
  | succ d ih =>
    intro _ hd p
    have hlt : c - (d + 1) < (putL n c).length := by rw [putL_len]; omega
    have hget : (putL n c).getD (c - (d + 1)) 0 = grp n c (c - (d + 1)) := by simp [putL, show c - (d + 1) < c by omega]
    have hcons : (putL n c).drop (c - (d + 1)) ++ rest = grp n c (c - (d + 1)) :: ((putL n c).drop (c - d) ++ rest) := by
      rw [drop_cons hlt, hget, show c - (d + 1) + 1 = c - d by omega]; rfl
    rw [hcons, getL]
    have hbig : ¬ (72057594037927936 : Int) ≤ ((n / 128 ^ (d + 1) : Nat) : Int) := by
      have h1 : n / 128 ^ (d + 1) ≤ n / 128 := by
        rw [show (128 : Nat) ^ (d + 1) = 128 * 128 ^ d by rw [Nat.pow_succ, Nat.mul_comm], ← Nat.div_div_eq_div_mul]
        exact Nat.div_le_self _ _
      omega
    rw [if_neg hbig]
    have hexp : c - 1 - (c - (d + 1)) = d := by omega
    have hstep : n / 128 ^ (d + 1) = n / 128 ^ d / 128 := (div_next n d).symm
    by_cases h0 : d = 0
    · subst h0
      have hg : grp n c (c - (0 + 1)) = ((n % 128 : Nat) : Int) := by
        unfold grp; rw [if_pos (by omega), hexp]; simp
      rw [hg, if_pos (by omega)]
      have : ((n / 128 ^ (0 + 1) : Nat) : Int) * 128 + ((n % 128 : Nat) : Int) % 128 = n := by
        rw [show (128 : Nat) ^ (0 + 1) = 128 from rfl]; omega
      rw [this]; simp
    · have hg : grp n c (c - (d + 1)) = ((n / 128 ^ d % 128 : Nat) : Int) + 128 := by
        unfold grp; rw [if_neg (by omega), hexp]
      rw [hg, if_neg (by omega)]
      have e : ((n / 128 ^ (d + 1) : Nat) : Int) * 128 + (((n / 128 ^ d % 128 : Nat) : Int) + 128) % 128 = ((n / 128 ^ d : Nat) : Int) := by
        rw [hstep]; omega
      rw [e, ih (by omega) (by omega) (p + 1)]
      simp; omega

theorem putN_len_pos (n : Nat) : 1 ≤ (putN n).length := by rw [putN, putL_len]; exact (cnt_ok n).pos
theorem getL_putN (n : Nat) (hn : n < 9223372036854775808) (rest : List Int) (p : Int) : getL (putN n ++ rest) 0 p = ((n : Int), p + (putN n).length, 0) := by
  have hc := cnt_ok n
  have h := getL_put n (cnt n) hn rest (cnt n) hc.pos (Nat.le_refl _) p
  rw [Nat.sub_self, List.drop_zero, Nat.div_eq_of_lt hc.top] at h
  rw [putN, putL_len]
  exact h
theorem putN_first (n : Nat) (rest : List Int) : (putN n ++ rest).getD 0 0 ≠ 128 := by
  have hc := cnt_ok n
  have hp := hc.pos
  have e : (putN n ++ rest).getD 0 0 = grp n (cnt n) 0 := by
    rw [List.getD_eq_getElem?_getD, List.getElem?_append_left (by have := putN_len_pos n; omega)]
    simp [putN, putL, show 0 < cnt n by omega]
  rw [e]
  unfold grp
  split
  · rename_i h1
    have := Nat.mod_lt (n / 128 ^ (cnt n - 1 - 0)) (show 0 < 128 by decide)
    omega
  · rename_i h1
    rcases hc.low with h2 | h2
    · omega
    · have h3 : 1 ≤ n / 128 ^ (cnt n - 1) := (Nat.le_div_iff_mul_le (Nat.pow_pos (by decide))).2 (by omega)
      have h4 : n / 128 ^ (cnt n - 1) < 128 := by
        rw [Nat.div_lt_iff_lt_mul (Nat.pow_pos (by decide)), Nat.mul_comm, ← Nat.pow_succ, show (cnt n - 1).succ = cnt n by omega]
        exact hc.top
      rw [show cnt n - 1 - 0 = cnt n - 1 by omega, Nat.mod_eq_of_lt h4]
      omega

/-- Numbers, written one behind the other. -/
def encN (ns : List Nat) : List Int := ns.flatMap putN
theorem encN_split (ns : List Nat) (i : Nat) (h : i < ns.length) : encN ns = encN (ns.take i) ++ (putN (ns.getD i 0) ++ encN (ns.drop (i + 1))) := by
  have e : ns = ns.take i ++ (ns.getD i 0 :: ns.drop (i + 1)) := by
    have h1 : ns.drop i = ns.getD i 0 :: ns.drop (i + 1) := by rw [List.drop_eq_getElem_cons h]; simp [h]
    rw [← h1, List.take_append_drop]
  exact (congrArg encN e).trans (by simp only [encN, List.flatMap_append, List.flatMap_cons])
theorem getN_at (ns : List Nat) (i : Nat) (h : i < ns.length) (hn : ∀ x ∈ ns, x < 9223372036854775808) (p : Nat) (hp : p = (encN (ns.take i)).length) : getN (encN ns) (p : Int) = (((ns.getD i 0 : Nat) : Int), (p : Int) + (putN (ns.getD i 0)).length, 0) := by
  have hs := encN_split ns i h
  have hl : p < (encN ns).length := by rw [hs, List.length_append, List.length_append, hp]; have := putN_len_pos (ns.getD i 0); omega
  have hd : (encN ns).drop p = putN (ns.getD i 0) ++ encN (ns.drop (i + 1)) := by rw [hs, hp, List.drop_left]
  rw [getN, if_neg (by omega), Int.toNat_natCast, hd, getL_putN _ (hn _ (by simp [h]))]
  rw [if_neg]
  have e : (encN ns).getD p 0 = (putN (ns.getD i 0) ++ encN (ns.drop (i + 1))).getD 0 0 := by
    rw [← hd]; simp
  rw [e]
  exact putN_first _ _
theorem getN_end (bs : List Int) : getN bs (bs.length : Int) = (0, 0, 1) := by
  rw [getN, if_neg (by omega), Int.toNat_natCast, if_neg (by rw [List.getD_eq_getElem?_getD, List.getElem?_eq_none (Nat.le_refl _)]; simp), getL_end (Nat.le_refl _)]
theorem getN_out (bs : List Int) (p : Int) (h : p < 0 ∨ (bs.length : Int) < p) : getN bs p = (0, 0, 3) := by rw [getN, if_pos h]

theorem encN_snoc (ns : List Nat) (n : Nat) : encN (ns ++ [n]) = encN ns ++ putN n := by simp [encN, List.flatMap_append]
theorem putN_byte (n : Nat) : ∀ k, 0 ≤ (putN n).getD k 0 ∧ (putN n).getD k 0 ≤ 255 := putL_byte _ _
theorem encN_byte (ns : List Nat) : ∀ k, 0 ≤ (encN ns).getD k 0 ∧ (encN ns).getD k 0 ≤ 255 := by
  induction ns with
  | nil => simp [encN]
  | cons n r ih => exact append_byte (putN_byte n) ih
theorem encN_le (ns : List Nat) (h : ∀ x ∈ ns, x < 9223372036854775808) : (encN ns).length ≤ 9 * ns.length := by
  induction ns with
  | nil => simp [encN]
  | cons n r ih =>
    have h1 := ih (fun x hx => h x (List.mem_cons_of_mem _ hx))
    have h2 : (putN n).length ≤ 9 := by rw [putN, putL_len]; exact cnt_le n (h n List.mem_cons_self)
    have e : encN (n :: r) = putN n ++ encN r := rfl
    rw [e, List.length_append, List.length_cons]; omega

theorem blocks_apart {w : World} {B e e' s s' n m : Nat} {v u : Value} {xs ys : List Value} (h : w.ownsRow B e s v n xs) (k : w.ownsRow B e' s' u m ys) (hne : e ≠ e') : v.ownBlock = none ∨ v.ownBlock ≠ u.ownBlock := by
  rcases h.2 with ⟨rfl, _⟩ | ⟨g, cap, cur, rfl, _, hg, _⟩
  · exact .inl rfl
  · right
    rcases k.2 with ⟨rfl, _⟩ | ⟨g', cap', cur', rfl, _, hg', _⟩
    · simp [Value.ownBlock]
    · simp only [Value.ownBlock, ne_eq, Option.some.injEq]
      intro e0
      subst e0
      rw [hg] at hg'
      simp at hg'
      exact hne hg'.2

theorem Row.drop {w : World} {b off n : Nat} {bs : List Int} (h : Row w (some ⟨b, off, none⟩) n bs) (k : Nat) (hk : k ≤ n) : Row w (some ⟨b, off + k, none⟩) (n - k) (bs.drop k) := by
  refine ⟨by rw [List.length_drop, h.len], fun j hj => ?_, fun j => ?_⟩
  · obtain ⟨b', off', ha, hb, hc⟩ := h.get (k + j) (by omega)
    simp at ha
    obtain ⟨rfl, rfl⟩ := ha
    exact ⟨b, off + k, rfl, hb, by rw [Nat.add_assoc, hc]; simp⟩
  · have := h.byte (k + j)
    simpa using this

set_option maxHeartbeats 400000 in
theorem big_any (a : Option Addr) (n cap : Nat) (w : World) (_hn : n ≤ 9223372036854775807) : Calls Try.prog 7 #[.slice a n cap] w fun e w' => e = .returned (.bool (decide (1048576 < (n : Int)))) ∧ w = w' := by
  go_enter Try.func7, Try.ntmps7
  go_wp2
  go_ret
  exact ⟨rfl, rfl⟩

theorem touch_of_grown {w w' : World} {r : Option Nat} {lo hi : Nat} (hg : w.grownBy w' r) (hr : ∀ k, r = some k → lo ≤ k ∧ k < hi) : Touch lo hi w w' :=
  ⟨hg.os, hg.tape, hg.output, hg.size, fun k hk ho => hg.block k hk (fun e => by have := hr k e.symm; omega)⟩

theorem own_beside {B k : Nat} {w w' : World} {a : Option Addr} {n cap : Nat} {bs : List Int} {v : Value} {xs : List Value} (h : Own B w a n cap bs) (hl : w.ownsRow B 2 1 v k xs) (hg : w.grownBy w' v.ownBlock) : Own B w' a n cap bs :=
  ⟨h.row.kept hg (blocks_apart h.row hl (by decide)), h.byte⟩

theorem owns_shape {w : World} {B e s n : Nat} {v : Value} {xs : List Value} (h : w.ownsRow B e s v n xs) : ∃ a c, v = .slice a n c := by
  rcases h.2 with ⟨rfl, rfl⟩ | ⟨g, cap, cur, rfl, _⟩
  · exact ⟨_, _, rfl⟩
  · exact ⟨_, _, rfl⟩
theorem owns_some {w : World} {B e s n c : Nat} {a : Option Addr} {xs : List Value} (h : w.ownsRow B e s (.slice a n c) n xs) (hn : 0 < n) : ∃ g, a = some ⟨g, 0, none⟩ := by
  rcases h.2 with ⟨_, h0⟩ | ⟨g, cap, cur, hv, _⟩
  · omega
  · simp only [Value.slice.injEq] at hv; exact ⟨g, hv.1⟩

def ints (ns : List Nat) : List Value := ns.map fun x : Nat => Value.int .i64 (x : Int)

set_option maxRecDepth 100000 in
set_option maxHeartbeats 2000000 in
theorem lawNumbers_walk (a : Option Addr) (n cap : Nat) (zs : List Int) (w : World) (hr : IsRow .u8 w a n cap zs) :
    Calls Try.prog 3 #[.slice a n cap] w fun e w' => e = .returned (.bool true) ∧ Below w.heap.size w w' := by
  obtain ⟨hrow, hmax⟩ := hr.row
  obtain ⟨hc1, hc2⟩ := hr.cap
  obtain ⟨bs, hbs⟩ : ∃ bs, bs = zs.take n := ⟨_, rfl⟩
  rw [← hbs] at hrow
  clear hbs hr
  unfold maxLen at hmax
  have H0 : Hid (Row w a n bs) := hrow
  clear hrow
  obtain ⟨i0, hi, hz0, hz1, hz2⟩ := info_parts Try.info5
  obtain ⟨j0, kj, kz0, kz1, kz2⟩ := info_parts Try.info2
  by_cases hbig : 1048576 < n
  · have hd : decide (1048576 < (n : Int)) = true := by simp; omega
    go_enter Try.func3, Try.ntmps3
    go_wp2_with (go_at_call 7; refine (big_any _ _ _ _ (by omega)).mono ?_; rintro e w' ⟨rfl, rfl⟩; rw [hd])
    go_ret
    exact ⟨rfl, Below.refl _ _⟩
  · have hd : decide (1048576 < (n : Int)) = false := by simp; omega
    have hoe : Own w.heap.size ((w.alloc (.cells #[] 5)).alloc (.cells #[] 2)) (some ⟨w.heap.size, 0, none⟩) 0 0 [] := by
      have h1 : Own w.heap.size (w.alloc (.cells #[] 5)) (some ⟨w.heap.size, 0, none⟩) 0 0 [] := ⟨World.ownsRow_lit w #[] 0 (Nat.le_refl _) (Nat.zero_le _) rfl, by simp⟩
      exact h1.kept ((Below.refl _ _).alloc (Nat.le_refl _) _)
    have hol : ((w.alloc (.cells #[] 5)).alloc (.cells #[] 2)).ownsRow w.heap.size 2 1 (.slice (some ⟨w.heap.size + 1, 0, none⟩) 0 0) 0 [] := by
      have := World.ownsRow_lit (base := w.heap.size) (e := 2) (size := 1) (w.alloc (.cells #[] 5)) #[] 0 (by simp) (Nat.zero_le _) rfl
      simpa using this
    have hbe : Below w.heap.size w ((w.alloc (.cells #[] 5)).alloc (.cells #[] 2)) := ((Below.refl _ _).alloc (Nat.le_refl _) _).alloc (by simp) _
    go_enter Try.func3, Try.ntmps3
    go_wp2_with (go_at_call 7; refine (big_any _ _ _ _ (by omega)).mono ?_; rintro e w' ⟨rfl, rfl⟩; rw [hd])
    go_loopw [3, 4, 5] (fun o l i wr => ∃ (q : Nat) (ns : List Nat) (ab al : Option Addr) (nb cb cl : Nat), q ≤ 40 ∧ i = .int .i64 ((4 * q : Nat) : Int) ∧ nb = (encN ns).length ∧ o = .slice ab nb cb ∧ l = .slice al ns.length cl ∧ Own w.heap.size wr ab nb cb (encN ns) ∧ wr.ownsRow w.heap.size 2 1 (.slice al ns.length cl) ns.length (ints ns) ∧ (∀ x ∈ ns, x < 9223372036854775808) ∧ ns.length ≤ q ∧ Below w.heap.size w wr) (fun _ _ i _ => 200 - (intOf i).toNat)
    case atStart => exact ⟨0, [], _, _, 0, 0, 0, by omega, rfl, rfl, rfl, rfl, hoe, hol, by simp, Nat.le_refl _, hbe⟩
    case round =>
      obtain ⟨q, ns, ab, al, nb, cb, cl, hq, rfl, hnb, rfl, rfl, hor, hlr, hns, hnq, hbr⟩ := hrel
      have HNB : Hid (nb = (encN ns).length) := hnb
      have HNS : Hid (∀ x ∈ ns, x < 9223372036854775808) := hns
      have hnb9 : nb ≤ 360 := by have := encN_le ns hns; omega
      have hws := hbr.size
      clear hnb hns
      obtain ⟨ln, hln⟩ : ∃ ln, ln = ns.length := ⟨_, rfl⟩
      have HLN : Hid (ln = ns.length) := hln
      rw [← hln] at hlr hnq
      rw [← hln]
      clear hln
      by_cases hin : 4 * q + 4 ≤ n ∧ q < 40
      · obtain ⟨hin1, hin2⟩ := hin
        obtain ⟨b, off, rfl, hb, hcx⟩ := H0.out.get 0 (by omega)
        clear hcx hb
        have hck : ¬ cap = 4 * q := by omega
        go_wp2_with fail
        refine (drawPutNum_any _ (n - 4 * q) (cap - 4 * q) (bs.drop (4 * q)) _ ((H0.out.kept hbr).drop (4 * q) (by omega)) (by omega)).mono ?_
        rintro e w1 ⟨v, rfl, hv0, hv1, hb1⟩
        have s1 := hb1.size
        have hor1 := hor.kept hb1
        have hlr1 := ownsRow_below hlr hb1
        have hbr1 : Below w.heap.size w w1 := hbr.trans (hb1.mono hws)
        go_wp2_with fail
        refine (implPutNum_any v _ hv1).mono ?_
        rintro e w2 ⟨ax, cx, rfl, hox, hb2⟩
        have s2 := hb2.size
        have hor2 := hor1.kept hb2
        have hlr2 := ownsRow_below hlr1 hb2
        have hbr2 : Below w.heap.size w w2 := hbr1.trans (hb2.mono (by omega))
        have hpl := putI_len v hv1
        obtain ⟨px, hpx⟩ : ∃ px, px = putI v := ⟨_, rfl⟩
        obtain ⟨m, hm⟩ : ∃ m, m = (putI v).length := ⟨_, rfl⟩
        rw [← hm] at hox hpl
        rw [← hpx] at hox
        rw [← hm]
        have HPX : Hid (px = putI v) := hpx
        have HM : Hid (m = (putI v).length) := hm
        have HLL : Hid (∀ k, (Value.slice al ln cl).ownBlock = some k → k < w1.heap.size) := fun k hk => (hlr1.lt k hk).2
        clear hpx hm hor hlr hor1 hlr1 hbr hbr1
        by_cases hneg : v < 0
        · have hm0 : m = 0 := by have := HM.out; rw [putI, if_pos hneg] at this; exact this
          subst hm0
          go_wp2
          go_roundw
          case rel => exact ⟨q + 1, ns, ab, al, nb, cb, cl, by omega, by go_num, HNB.out, rfl, by rw [HLN.out], hor2, by rw [HLN.out] at hlr2; exact hlr2, HNS.out, by have := HLN.out; omega, hbr2⟩
          case measure => simp [intOf]; omega
        · obtain ⟨u, rfl⟩ := Int.eq_ofNat_of_zero_le (show 0 ≤ v by omega)
          have hpu : Hid (px = putN u) := by show _ = _; rw [HPX.out, putI, if_neg hneg, Int.toNat_natCast]
          have hm1 : 1 ≤ m := by have := HM.out; rw [putI, if_neg hneg, Int.toNat_natCast] at this; rw [this]; exact putN_len_pos u
          have hme : ((m : Int) == 0) = false := by simp; omega
          go_wp2_with (first | (at_builtin; refine wpList_append_own _ rfl (.tmp 56) (.tmp 58) 24 rfl w.heap.size 2 j0 (.int .i64 0) 1 8 Try.underlying24 kj kz0 kz1 kz2 rfl (by decide) _ _ _ rfl (hlr2.alloc _) ⟨w2.heap.size, 0, none⟩ 1 1 [.int .i64 (u : Int)] rfl rfl (cell_one_new _ _ _) (by intro x hx; simp only [List.mem_cons, List.not_mem_nil, or_false] at hx; subst hx; rfl) (by unfold maxLen; omega) (by omega) (by simp; omega) ?_; intro vl w3 hl3 hg3 hnl3; have hor3 : Own w.heap.size w3 ab nb cb (encN ns) := own_beside (hor2.kept ((Below.refl _ _).alloc (Nat.le_refl _) _)) (hlr2.alloc _) hg3; have hrx3 : Row w3 ax m px := (hox.toRow.kept ((Below.refl _ _).alloc (Nat.le_refl _) _)).touch hox.in_ (.inr (Nat.le_refl _)) (touch_of_grown (lo := 0) (hi := w1.heap.size) hg3 (fun k hk => ⟨Nat.zero_le _, HLL.out k hk⟩)); have hbr3 : Below w.heap.size w w3 := (hbr2.alloc (by omega) _).grown hg3 (by simp; omega) (fun k hk => (hlr2.lt k hk).1)) | (at_builtin; refine wpList_append_row _ rfl (.tmp 60) (.tmp 61) 22 rfl w.heap.size i0 Try.underlying22 hi hz0 hz1 hz2 _ _ _ rfl hor3.row ax m cx px rfl hrx3 hox.nil (by omega) (by have := hbr3.size; omega) ?_; intro vb w4 hb4 hg4))
          obtain ⟨a4, c4, rfl, ho4⟩ := own_appended (xs := encN ns) (ys := px) hb4 hor3.byte hox.byte
          obtain ⟨a5, c5, rfl⟩ := owns_shape hl3
          have hl4 := hl3.kept hg4 (blocks_apart hl3 hor3.row (by decide))
          have hbr4 : Below w.heap.size w w4 := below_appended hbr3 (by have := hbr3.size; omega) hor3.row hg4
          have hins : ints (ns ++ [u]) = ints ns ++ [.int .i64 (u : Int)] := by simp [ints]
          rw [hpu.out, ← encN_snoc] at ho4
          go_roundw
          case rel =>
            have hlen : (ns ++ [u]).length = ln + 1 := by rw [List.length_append, HLN.out]; rfl
            have hle : (encN (ns ++ [u])).length = nb + m := ho4.length
            refine ⟨q + 1, ns ++ [u], a4, a5, nb + m, c4, c5, by omega, by go_num, hle.symm, rfl, by rw [hlen], ho4, by rw [hlen, hins]; exact hl4, ?_, by rw [hlen]; omega, hbr4⟩
            intro x hx
            rcases List.mem_append.1 hx with h1 | h1
            · exact HNS.out x h1
            · simp at h1; subst h1; omega
          case measure => simp [intOf]; omega
      · obtain ⟨W1, rfl⟩ : ∃ W1, W1 = wr := ⟨wr, rfl⟩
        have hout : (n : Int) < 4 * (q : Int) + 4 ∨ (4 * (q : Int) + 4 ≤ (n : Int) ∧ 160 ≤ 4 * (q : Int)) := by omega
        have HL0 : Hid (W1.ownsRow w.heap.size 2 1 (.slice al ln cl) ln (ints ns)) := hlr
        have HO0 : Hid (Own w.heap.size W1 ab nb cb (encN ns)) := hor
        have hnb' : (encN ns).length = nb := hor.length
        have HNB' : Hid ((encN ns).length = nb) := hnb'
        clear hlr hor hnb' hin
        rcases hout with hout | ⟨hout1, hout2⟩
        all_goals
          go_wp2
          go_loopw [8, 9] (fun p i w2 => ∃ (k pp : Nat), k ≤ ln ∧ i = .int .i64 k ∧ p = .int .i64 pp ∧ pp = (encN (ns.take k)).length ∧ Below W1.heap.size W1 w2) (fun _ i _ => ln - (intOf i).toNat)
          case atStart => exact ⟨0, 0, Nat.zero_le _, rfl, rfl, rfl, Below.refl _ _⟩
          case round =>
            obtain ⟨k, pp, hk, rfl, rfl, hpp, hb2⟩ := hrel
            have HPP : Hid (pp = (encN (ns.take k)).length) := hpp
            clear hpp
            by_cases hlt : k < ln
            · have hkn : k < ns.length := by have := HLN.out; omega
              have hpn : pp ≤ nb := by
                have h1 := encN_split ns k hkn
                have h2 := congrArg List.length h1
                rw [List.length_append, HNB'.out] at h2
                have := HPP.out; omega
              obtain ⟨g, rfl⟩ := owns_some HL0.out (by omega)
              go_wp2_with fail
              refine (copied_any ab nb cb (encN ns) _ (HO0.out.toRow.kept hb2) HO0.out.nil (by omega)).mono ?_
              rintro e w3 ⟨a3, c3, rfl, ho3, hb3⟩
              have s3 := hb2.size
              have hb23 : Below W1.heap.size W1 w3 := hb2.trans (hb3.mono s3)
              go_wp2_with fail
              refine (implGetNum_any a3 nb c3 (encN ns) pp _ ho3.toRow (by omega)).mono ?_
              rintro e w4 ⟨rfl, hw4⟩
              subst hw4
              have hgn := getN_at ns k hkn HNS.out pp HPP.out
              obtain ⟨y, hy⟩ : ∃ y, y = ns.getD k 0 := ⟨_, rfl⟩
              obtain ⟨l, hl⟩ : ∃ l, l = (putN (ns.getD k 0)).length := ⟨_, rfl⟩
              rw [← hl, ← hy] at hgn
              have hl1 : 1 ≤ l := by rw [hl]; exact putN_len_pos _
              have hnext : Hid (pp + l = (encN (ns.take (k + 1))).length) := by
                show _ = _
                have e1 : ns.take (k + 1) = ns.take k ++ [ns.getD k 0] := by rw [List.take_succ_eq_append_getElem hkn]; simp [hkn]
                rw [e1, encN_snoc, List.length_append, ← HPP.out, hl]
              have hpl2 : pp + l ≤ nb := by
                have h1 := encN_split ns k hkn
                have h2 := congrArg List.length h1
                rw [List.length_append, List.length_append, HNB'.out, ← hl] at h2
                have := HPP.out; omega
              have htr : trip (getN (encN ns) (pp : Int)) = .tuple #[.int .i64 (y : Int), .int .i64 ((pp : Int) + (l : Int)), .int .i64 0] := by rw [hgn]; rfl
              have hcl : w4.cell? ⟨g, k, none⟩ = some (.int .i64 (y : Int)) := by
                have h1 := (ownsRow_below HL0.out hb23).cellAt k (by omega)
                rw [h1, hy]
                simp [ints, hkn]
              have hyy : ((y : Int) != (y : Int)) = false := by simp
              rw [htr]
              clear htr hgn hy hl
              have hki : (k : Int) < (ln : Int) := by omega
              go_wp2
              go_roundw
              case rel => first | exact ⟨k + 1, pp + l, by omega, by go_num, by go_num, hnext.out, hb23⟩ | ((repeat apply Exists.intro); exact ⟨⟨k + 1, pp + l, by omega, by go_num, by go_num, hnext.out, hb23⟩, rfl⟩)
              case measure => simp [intOf]; omega
            · have hkl : k = ln := by omega
              subst hkl
              have hpe : pp = nb := by have h1 := HPP.out; rw [List.take_of_length_le (by have := HLN.out; omega)] at h1; rw [h1, HNB'.out]
              subst hpe
              have s2 := hb2.size
              have t1 : trip (getN (encN ns) (pp : Int)) = .tuple #[.int .i64 0, .int .i64 0, .int .i64 1] := by rw [← HNB'.out, getN_end]; rfl
              have t2 : trip (getN (encN ns) ((pp : Int) + 1)) = .tuple #[.int .i64 0, .int .i64 0, .int .i64 3] := by rw [getN_out _ _ (.inr (by rw [HNB'.out]; omega))]; rfl
              have t3 : trip (getN (encN ns) (-1)) = .tuple #[.int .i64 0, .int .i64 0, .int .i64 3] := by rw [getN_out _ _ (.inl (by decide))]; rfl
              have T1 : Hid (trip (getN (encN ns) (pp : Int)) = .tuple #[.int .i64 0, .int .i64 0, .int .i64 1]) := t1
              have T2 : Hid (trip (getN (encN ns) ((pp : Int) + 1)) = .tuple #[.int .i64 0, .int .i64 0, .int .i64 3]) := t2
              have T3 : Hid (trip (getN (encN ns) (-1)) = .tuple #[.int .i64 0, .int .i64 0, .int .i64 3]) := t3
              clear t1 t2 t3
              have eqp : ((pp : Int) == (pp : Int)) = true := by simp
              go_wp2_with fail
              refine (copied_any ab pp cb (encN ns) _ (HO0.out.toRow.kept hb2) HO0.out.nil (by omega)).mono ?_
              rintro e w3 ⟨a3, c3, rfl, ho3, hb3⟩
              have b3 : Below W1.heap.size W1 w3 := hb2.trans (hb3.mono s2)
              have s3 := b3.size
              go_wp2_with fail
              refine (implGetNum_any a3 pp c3 (encN ns) pp _ ho3.toRow (by omega)).mono ?_
              rintro e w4 ⟨rfl, hw4⟩
              subst hw4
              rw [T1.out]
              go_wp2_with fail
              refine (copied_any ab pp cb (encN ns) _ (HO0.out.toRow.kept b3) HO0.out.nil (by omega)).mono ?_
              rintro e w5 ⟨a5, c5, rfl, ho5, hb5⟩
              have b5 := b3.trans (hb5.mono s3)
              have s5 := b5.size
              go_wp2_with fail
              refine (implGetNum_any a5 pp c5 (encN ns) (pp + 1) _ ho5.toRow (by omega)).mono ?_
              rintro e w6 ⟨rfl, hw6⟩
              subst hw6
              rw [T2.out]
              go_wp2_with fail
              refine (copied_any ab pp cb (encN ns) _ (HO0.out.toRow.kept b5) HO0.out.nil (by omega)).mono ?_
              rintro e w7 ⟨a7, c7, rfl, ho7, hb7⟩
              have b7 := b5.trans (hb7.mono s5)
              have s7 := b7.size
              go_wp2_with fail
              refine (implGetNum_any a7 pp c7 (encN ns) (-1) _ ho7.toRow (by omega)).mono ?_
              rintro e w8 ⟨rfl, hw8⟩
              subst hw8
              rw [T3.out]
              go_wp2_with fail
              refine (lives_any _).mono ?_
              rintro e w9 ⟨rfl, hb9⟩
              go_wp2
              go_ret
              have z1 := hbr.size
              exact ⟨rfl, hbr.trans ((b7.mono z1).trans (hb9.mono (by omega)))⟩

end Go.Proofs.Ytmmdklaajejeiaa
