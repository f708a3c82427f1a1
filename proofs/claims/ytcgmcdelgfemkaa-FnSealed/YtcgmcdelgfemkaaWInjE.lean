import Derived.Test.YtcgmcdelgfemkaaWH8
namespace Go.Proofs.Ytcgmcdelgfemkaa
open Go.RowKit

theorem xorN_cancel (a b c : Nat) (h : a ^^^ c = b ^^^ c) : a = b := by
  have h2 : (a ^^^ c) ^^^ c = (b ^^^ c) ^^^ c := by rw [h]
  rwa [Nat.xor_assoc, Nat.xor_assoc, Nat.xor_self, Nat.xor_zero, Nat.xor_zero] at h2

theorem shiftBack (y : Nat) (h : y < 2 ^ 64) : (y ^^^ y >>> 29) ^^^ ((y ^^^ y >>> 29) >>> 29) ^^^ ((y ^^^ y >>> 29) >>> 58) = y := by
  have h3 : y >>> 87 = 0 := by rw [Nat.shiftRight_eq_div_pow]; exact Nat.div_eq_of_lt (Nat.lt_of_lt_of_le h (Nat.pow_le_pow_right (by decide) (by decide)))
  rw [Nat.shiftRight_xor_distrib, Nat.shiftRight_xor_distrib, ← Nat.shiftRight_add, ← Nat.shiftRight_add]
  rw [show 29 + 29 = 58 from rfl, show 29 + 58 = 87 from rfl, h3, Nat.xor_zero]
  have e1 : (y ^^^ y >>> 29) ^^^ (y >>> 29 ^^^ y >>> 58) = y ^^^ y >>> 58 := by
    rw [Nat.xor_assoc, ← Nat.xor_assoc (y >>> 29), Nat.xor_self, Nat.zero_xor]
  rw [e1, Nat.xor_assoc, Nat.xor_self, Nat.xor_zero]

theorem xorShift_inj (x y : Nat) (hx : x < 18446744073709551616) (hy : y < 18446744073709551616) (h : x ^^^ x / 536870912 = y ^^^ y / 536870912) : x = y := by
  have e : ∀ z : Nat, z / 536870912 = z >>> 29 := fun z => by rw [Nat.shiftRight_eq_div_pow]
  rw [e, e] at h
  have h1 := shiftBack x (by omega)
  have h2 := shiftBack y (by omega)
  rw [h] at h1
  rw [← h1, h2]

theorem mixed (x : Int) (h0 : 0 ≤ x) (h1 : x < 18446744073709551616) : ((x * 6364136223846793005) % 18446744073709551616 * 13877824140714322085) % 18446744073709551616 = x := by
  have e : ((x * 6364136223846793005) % 18446744073709551616 * 13877824140714322085) % 18446744073709551616 = (x * 6364136223846793005 * 13877824140714322085) % 18446744073709551616 := by
    rw [Int.mul_emod, Int.emod_emod_of_dvd _ (Int.dvd_refl _), ← Int.mul_emod]
  rw [e]
  have e2 : x * 6364136223846793005 * 13877824140714322085 = x + 18446744073709551616 * (x * 4787856489426250814) := by omega
  rw [e2, Int.add_mul_emod_self_left]
  omega

theorem mix_val (x : Int) : mix x = ((x * 6364136223846793005) % 18446744073709551616 + 1442695040888963407) % 18446744073709551616 := by
  unfold mix
  rw [IntKind.wrap_u64, IntKind.wrap_u64]
theorem mix_range (x : Int) : 0 ≤ mix x ∧ mix x < 18446744073709551616 := by rw [mix_val]; omega
theorem add_mod_inj (p q : Int) (hp : 0 ≤ p) (hp' : p < 18446744073709551616) (hq : 0 ≤ q) (hq' : q < 18446744073709551616) (h : (p + 1442695040888963407) % 18446744073709551616 = (q + 1442695040888963407) % 18446744073709551616) : p = q := by omega
theorem mod_range (x : Int) : 0 ≤ x % 18446744073709551616 ∧ x % 18446744073709551616 < 18446744073709551616 := by omega
theorem mix_inj (x y : Int) (hx : 0 ≤ x) (hx' : x < 18446744073709551616) (hy : 0 ≤ y) (hy' : y < 18446744073709551616) (h : mix x = mix y) : x = y := by
  have h0 := (mix_val x).symm.trans (h.trans (mix_val y))
  have hp := mod_range (x * 6364136223846793005)
  have hq := mod_range (y * 6364136223846793005)
  have e := add_mod_inj _ _ hp.1 hp.2 hq.1 hq.2 h0
  have e2 := congrArg (fun t : Int => (t * 13877824140714322085) % 18446744073709551616) e
  exact (mixed x hx hx').symm.trans (e2.trans (mixed y hy hy'))

theorem xor64 (x y : Int) (hx : 0 ≤ x) (hx' : x < 18446744073709551616) (hy : 0 ≤ y) (hy' : y < 18446744073709551616) : 0 ≤ bits .xor .u64 x y ∧ bits .xor .u64 x y < 18446744073709551616 := by
  rw [u64_xor x y hx hx' hy hy']
  have : x.toNat ^^^ y.toNat < 2 ^ 64 := Nat.xor_lt_two_pow (by omega) (by omega)
  omega
theorem stir_range (h b : Int) (_h0 : 0 ≤ h) (_h1 : h < 18446744073709551616) (_b0 : 0 ≤ b) (_b1 : b ≤ 255) : 0 ≤ stir h b ∧ stir h b < 18446744073709551616 := by
  have hm := mix_range (bits .xor .u64 h b)
  unfold stir
  exact xor64 _ _ hm.1 hm.2 (by omega) (by omega)
theorem stir_core (x y : Int) (hx : 0 ≤ x) (hx' : x < 18446744073709551616) (hy : 0 ≤ y) (hy' : y < 18446744073709551616) (h : bits .xor .u64 (mix x) (mix x / 536870912) = bits .xor .u64 (mix y) (mix y / 536870912)) : x = y := by
  have hm := mix_range x
  have hn := mix_range y
  apply mix_inj x y hx hx' hy hy'
  obtain ⟨X, hX⟩ := Int.eq_ofNat_of_zero_le hm.1
  obtain ⟨Y, hY⟩ := Int.eq_ofNat_of_zero_le hn.1
  rw [hX, hY] at h ⊢
  have d1 : (X : Int) / 536870912 = ((X / 536870912 : Nat) : Int) := by omega
  have d2 : (Y : Int) / 536870912 = ((Y / 536870912 : Nat) : Int) := by omega
  have e1 := u64_xor_nat X (X / 536870912) (by omega) (by omega)
  have e2 := u64_xor_nat Y (Y / 536870912) (by omega) (by omega)
  rw [d1, d2, e1, e2] at h
  have h5 := xorShift_inj X Y (by omega) (by omega) (by omega)
  rw [h5]
theorem xor64_inj_left (x y b : Int) (hx : 0 ≤ x) (hx' : x < 18446744073709551616) (hy : 0 ≤ y) (hy' : y < 18446744073709551616) (hb : 0 ≤ b) (hb' : b < 18446744073709551616) (h : bits .xor .u64 x b = bits .xor .u64 y b) : x = y := by
  rw [u64_xor x b hx hx' hb hb', u64_xor y b hy hy' hb hb'] at h
  have := xorN_cancel x.toNat y.toNat b.toNat (by omega)
  omega
theorem xor64_inj_right (x b c : Int) (hx : 0 ≤ x) (hx' : x < 18446744073709551616) (hb : 0 ≤ b) (hb' : b < 18446744073709551616) (hc : 0 ≤ c) (hc' : c < 18446744073709551616) (h : bits .xor .u64 x b = bits .xor .u64 x c) : b = c := by
  rw [u64_xor x b hx hx' hb hb', u64_xor x c hx hx' hc hc', Nat.xor_comm, Nat.xor_comm x.toNat] at h
  have := xorN_cancel b.toNat c.toNat x.toNat (by omega)
  omega
theorem stir_inj (h k b : Int) (h0 : 0 ≤ h) (h1 : h < 18446744073709551616) (k0 : 0 ≤ k) (k1 : k < 18446744073709551616) (b0 : 0 ≤ b) (b1 : b ≤ 255) (e : stir h b = stir k b) : h = k := by
  have hx := xor64 h b h0 h1 b0 (by omega)
  have hy := xor64 k b k0 k1 b0 (by omega)
  exact xor64_inj_left h k b h0 h1 k0 k1 b0 (by omega) (stir_core _ _ hx.1 hx.2 hy.1 hy.2 e)
theorem stir_byte (h b c : Int) (h0 : 0 ≤ h) (h1 : h < 18446744073709551616) (b0 : 0 ≤ b) (b1 : b ≤ 255) (c0 : 0 ≤ c) (c1 : c ≤ 255) (e : stir h b = stir h c) : b = c := by
  have hx := xor64 h b h0 h1 b0 (by omega)
  have hy := xor64 h c h0 h1 c0 (by omega)
  exact xor64_inj_right h b c h0 h1 b0 (by omega) c0 (by omega) (stir_core _ _ hx.1 hx.2 hy.1 hy.2 e)

def AllB (l : List Int) : Prop := ∀ x ∈ l, 0 ≤ x ∧ x ≤ 255
theorem allB_of {l : List Int} (h : ∀ k, 0 ≤ l.getD k 0 ∧ l.getD k 0 ≤ 255) : AllB l := by
  intro x hx
  obtain ⟨i, hi, rfl⟩ := List.getElem_of_mem hx
  have := h i
  simpa [hi] using this
theorem stirs_range (l : List Int) (hl : AllB l) : ∀ h, 0 ≤ h → h < 18446744073709551616 → 0 ≤ stirs h l ∧ stirs h l < 18446744073709551616 := by
  induction l with
  | nil => intro h h0 h1; exact ⟨h0, h1⟩
  | cons x r ih =>
    intro h h0 h1
    have hb := hl x List.mem_cons_self
    have hs := stir_range h x h0 h1 hb.1 hb.2
    exact ih (fun y hy => hl y (List.mem_cons_of_mem _ hy)) (stir h x) hs.1 hs.2
theorem stirs_inj (l : List Int) (hl : AllB l) : ∀ h k, 0 ≤ h → h < 18446744073709551616 → 0 ≤ k → k < 18446744073709551616 → stirs h l = stirs k l → h = k := by
  induction l with
  | nil => intro h k _ _ _ _ e; exact e
  | cons x r ih =>
    intro h k h0 h1 k0 k1 e
    have hb := hl x List.mem_cons_self
    have hs := stir_range h x h0 h1 hb.1 hb.2
    have ks := stir_range k x k0 k1 hb.1 hb.2
    exact stir_inj h k x h0 h1 k0 k1 hb.1 hb.2 (ih (fun y hy => hl y (List.mem_cons_of_mem _ hy)) (stir h x) (stir k x) hs.1 hs.2 ks.1 ks.2 e)
theorem stirs_append (h : Int) (a b : List Int) : stirs h (a ++ b) = stirs (stirs h a) b := List.foldl_append
/-- Bytes of which one is turned have another digest. -/
theorem hash_turned (p q : List Int) (x y : Int) (hp : AllB p) (hq : AllB q) (hx : 0 ≤ x ∧ x ≤ 255) (hy : 0 ≤ y ∧ y ≤ 255) (hne : x ≠ y) : hashL (p ++ x :: q) ≠ hashL (p ++ y :: q) := by
  intro e
  unfold hashL at e
  have hl : (p ++ x :: q).length = (p ++ y :: q).length := by simp
  rw [hl, stirs_append, stirs_append] at e
  have r0 := stirs_range p hp start (by unfold start; omega) (by unfold start; omega)
  have rx := stir_range _ x r0.1 r0.2 hx.1 hx.2
  have ry := stir_range _ y r0.1 r0.2 hy.1 hy.2
  have sx := stirs_range q hq _ rx.1 rx.2
  have sy := stirs_range q hq _ ry.1 ry.2
  have e1 := stirs_inj (eight (p ++ y :: q).length) (eight_mem _) _ _ sx.1 sx.2 sy.1 sy.2 e
  have e2 := stirs_inj q hq _ _ rx.1 rx.2 ry.1 ry.2 e1
  exact hne (stir_byte _ x y r0.1 r0.2 hx.1 hx.2 hy.1 hy.2 e2)
theorem list_split (l : List Int) (j : Nat) (hj : j < l.length) : l = l.take j ++ l.getD j 0 :: l.drop (j + 1) := by
  have e : l.getD j 0 = l[j] := by simp [hj]
  rw [e, ← List.drop_eq_getElem_cons hj, List.take_append_drop]
theorem set_split (l : List Int) (j : Nat) (hj : j < l.length) (y : Int) : l.set j y = l.take j ++ y :: l.drop (j + 1) := by
  rw [List.set_eq_take_append_cons_drop, if_pos hj]
theorem allB_take {l : List Int} (h : AllB l) (j : Nat) : AllB (l.take j) := fun x hx => h x (List.mem_of_mem_take hx)
theorem allB_drop {l : List Int} (h : AllB l) (j : Nat) : AllB (l.drop j) := fun x hx => h x (List.mem_of_mem_drop hx)
theorem allB_append {a b : List Int} (h : AllB a) (k : AllB b) : AllB (a ++ b) := fun x hx => (List.mem_append.1 hx).elim (h x) (k x)
theorem hash_set (l : List Int) (hl : AllB l) (j : Nat) (hj : j < l.length) (y : Int) (hy : 0 ≤ y ∧ y ≤ 255) (hne : l.getD j 0 ≠ y) : hashL (l.set j y) ≠ hashL l := by
  rw [set_split l j hj y]
  conv => rhs; rw [list_split l j hj]
  exact hash_turned _ _ y (l.getD j 0) (allB_take hl j) (allB_drop hl (j + 1)) hy (hl _ (by simp [hj])) (fun e => hne e.symm)

theorem putN_allB (n : Nat) : AllB (putN n) := allB_of (putL_byte _ _)
theorem encParts_allB (bss : List (List Int)) (h : ∀ p ∈ bss, AllB p) : AllB (encParts bss) := by
  induction bss with
  | nil => intro x hx; simp [encParts] at hx
  | cons p r ih => exact allB_append (allB_append (putN_allB _) (h p List.mem_cons_self)) (ih (fun q hq => h q (List.mem_cons_of_mem _ hq)))
/-- Parts with one byte of one part turned have another digest. -/
theorem parts_turned (bss : List (List Int)) (hb : ∀ p ∈ bss, AllB p) (i j : Nat) (hi : i < bss.length) (hj : j < (bss.getD i []).length) (y : Int) (hy : 0 ≤ y ∧ y ≤ 255) (hne : (bss.getD i []).getD j 0 ≠ y) :
    hashL (partsL (bss.set i ((bss.getD i []).set j y))) ≠ hashL (partsL bss) := by
  obtain ⟨p, hp⟩ : ∃ p, p = bss.getD i [] := ⟨_, rfl⟩
  rw [← hp] at hj hne ⊢
  have hpm : p ∈ bss := by rw [hp]; simp [hi]
  have e1 : bss = bss.take i ++ p :: bss.drop (i + 1) := by
    have e : p = bss[i] := by rw [hp]; simp [hi]
    rw [e, ← List.drop_eq_getElem_cons hi, List.take_append_drop]
  have e2 : bss.set i (p.set j y) = bss.take i ++ p.set j y :: bss.drop (i + 1) := by rw [List.set_eq_take_append_cons_drop, if_pos hi]
  have enc : ∀ q : List Int, encParts (bss.take i ++ q :: bss.drop (i + 1)) = encParts (bss.take i) ++ (putN q.length ++ q ++ encParts (bss.drop (i + 1))) := by
    intro q; rw [encParts_append]; rfl
  have f1 : partsL bss = (putN bss.length ++ encParts (bss.take i) ++ putN p.length ++ p.take j) ++ p.getD j 0 :: (p.drop (j + 1) ++ encParts (bss.drop (i + 1))) := by
    unfold partsL
    conv => lhs; rw [show encParts bss = encParts (bss.take i ++ p :: bss.drop (i + 1)) by rw [← e1]]
    rw [enc]
    conv => lhs; rw [show putN p.length ++ p ++ encParts (bss.drop (i + 1)) = putN p.length ++ (p.take j ++ p.getD j 0 :: p.drop (j + 1)) ++ encParts (bss.drop (i + 1)) by rw [← list_split p j hj]]
    simp only [List.append_assoc, List.cons_append]
  have f2 : partsL (bss.set i (p.set j y)) = (putN bss.length ++ encParts (bss.take i) ++ putN p.length ++ p.take j) ++ y :: (p.drop (j + 1) ++ encParts (bss.drop (i + 1))) := by
    unfold partsL
    rw [e2, enc]
    have hl : (bss.take i ++ p.set j y :: bss.drop (i + 1)).length = bss.length := by rw [← e2]; simp
    rw [hl, show (p.set j y).length = p.length by simp, set_split p j hj y]
    simp only [List.append_assoc, List.cons_append]
  rw [f1, f2]
  have hpB := hb p hpm
  refine hash_turned _ _ y (p.getD j 0) ?_ ?_ hy (hpB _ (by simp [hj])) (fun e => hne e.symm)
  · exact allB_append (allB_append (allB_append (putN_allB _) (encParts_allB _ (fun q hq => hb q (List.mem_of_mem_take hq)))) (putN_allB _)) (allB_take hpB j)
  · exact allB_append (allB_drop hpB _) (encParts_allB _ (fun q hq => hb q (List.mem_of_mem_drop hq)))

end Go.Proofs.Ytcgmcdelgfemkaa
