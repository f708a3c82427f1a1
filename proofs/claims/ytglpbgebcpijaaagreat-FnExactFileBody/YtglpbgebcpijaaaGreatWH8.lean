import Derived.Test.YtglpbgebcpijaaaGreatW3
import Derived.Test.YtglpbgebcpijaaaGreatW4
import Derived.Test.YtglpbgebcpijaaaGreatWApp
namespace Go.Proofs.YtglpbgebcpijaaaGreat
open Go.RowKit

/-- A row of rows of bytes. -/
structure Rows2 (w : World) (a : Option Addr) (n : Nat) (bss : List (List Int)) : Prop where
  len : bss.length = n
  get : ∀ k, k < n → ∃ b off, a = some ⟨b, off, none⟩ ∧ b < w.heap.size ∧ ∃ ak nk ck, w.cell? ⟨b, off + k, none⟩ = some (.slice ak nk ck) ∧ Row w ak nk (bss.getD k []) ∧ (ak = none → ck = 0)

theorem Rows2.kept {w w' : World} {a : Option Addr} {n : Nat} {bss : List (List Int)} (h : Rows2 w a n bss) (hb : Below w.heap.size w w') : Rows2 w' a n bss := by
  refine ⟨h.len, fun k hk => ?_⟩
  obtain ⟨b, off, ha, hlt, ak, nk, ck, hc, hr, hn⟩ := h.get k hk
  exact ⟨b, off, ha, Nat.lt_of_lt_of_le hlt hb.size, ak, nk, ck, (hb.cell (p := ⟨b, off + k, none⟩) hlt).trans hc, hr.kept hb, hn⟩

def total (bss : List (List Int)) : Nat := (bss.map List.length).sum
def encParts (bss : List (List Int)) : List Int := bss.flatMap fun p => putN p.length ++ p
def partsL (bss : List (List Int)) : List Int := putN bss.length ++ encParts bss

theorem encParts_nil : encParts [] = [] := rfl
theorem encParts_append (a b : List (List Int)) : encParts (a ++ b) = encParts a ++ encParts b := by simp [encParts, List.flatMap_append]
theorem encParts_next (bss : List (List Int)) (k : Nat) (h : k < bss.length) : encParts (bss.take (k + 1)) = encParts (bss.take k) ++ (putN (bss.getD k []).length ++ bss.getD k []) := by
  have e : bss.getD k [] = bss[k] := by simp [h]
  rw [List.take_succ_eq_append_getElem h, encParts_append, e]
  simp [encParts]
theorem total_take (bss : List (List Int)) (k : Nat) : total (bss.take k) ≤ total bss := by
  have : total bss = total (bss.take k) + total (bss.drop k) := by
    unfold total
    rw [← List.sum_append, ← List.map_append, List.take_append_drop]
  omega
theorem total_split (bss : List (List Int)) (k : Nat) (h : k < bss.length) : total (bss.take (k + 1)) = total (bss.take k) + (bss.getD k []).length := by
  have e : bss.getD k [] = bss[k] := by simp [h]
  rw [List.take_succ_eq_append_getElem h, e]
  unfold total
  rw [List.map_append, List.sum_append]
  rfl
theorem part_le (bss : List (List Int)) (k : Nat) (h : k < bss.length) {t : Nat} (ht : total bss ≤ t) : (bss.getD k []).length ≤ t := by
  have h1 := total_split bss k h
  have h2 := total_take bss (k + 1)
  omega
theorem encParts_len1 (bss : List (List Int)) (h : ∀ p ∈ bss, p.length < 9223372036854775808) : (encParts bss).length ≤ 9 * bss.length + total bss := by
  induction bss with
  | nil => simp [encParts, total]
  | cons p r ih =>
    have h1 := ih (fun x hx => h x (List.mem_cons_of_mem _ hx))
    have h2 : (putN p.length).length ≤ 9 := by rw [putN, putL_len]; exact cnt_le _ (h p List.mem_cons_self)
    have e : encParts (p :: r) = putN p.length ++ p ++ encParts r := rfl
    have e2 : total (p :: r) = p.length + total r := by simp [total]
    rw [e, e2, List.length_append, List.length_append, List.length_cons]; omega
theorem encParts_len (bss : List (List Int)) (k n : Nat) (hl : bss.length = n) (ht : total bss ≤ 2097152) : (encParts (bss.take k)).length ≤ 9 * n + 2097152 := by
  have h1 := encParts_len1 (bss.take k) (fun p hp => by
    obtain ⟨i, hi, rfl⟩ := List.getElem_of_mem (List.mem_of_mem_take hp)
    have := part_le bss i hi ht
    simp [hi] at this
    omega)
  have h2 := total_take bss k
  have h3 : (bss.take k).length ≤ n := by rw [List.length_take]; omega
  omega

set_option maxRecDepth 10000 in
set_option maxHeartbeats 1000000 in
theorem specHashAll_any (a : Option Addr) (n cap : Nat) (bss : List (List Int)) (w : World) (h : Rows2 w a n bss) (hn : n ≤ 2097152) (ht : total bss ≤ 2097152) :
    Calls Tryz.prog 117 #[.slice a n cap] w fun e w' => e = .returned (.int .u64 (hashL (partsL bss))) ∧ Below w.heap.size w w' := by
  obtain ⟨i0, hi, hz0, hz1, hz2⟩ := info_parts Tryz.info5
  have H0 : Hid (Rows2 w a n bss) := h
  have HL : Hid (bss.length = n) := h.len
  have HT : Hid (total bss ≤ 2097152) := ht
  clear h ht
  go_enter Tryz.func117, Tryz.ntmps117
  go_wp2_with fail
  refine (specPutNum_any (n : Int) _ (by omega)).mono ?_
  rintro e w1 ⟨a1, c1, rfl, ho1, hb1⟩
  have hp1 : putI (n : Int) = putN n := by rw [putI, if_neg (by omega), Int.toNat_natCast]
  rw [hp1] at ho1 ⊢
  have hpn : (putN n).length ≤ 9 := by rw [putN, putL_len]; exact cnt_le n (by omega)
  obtain ⟨m0, hm0⟩ : ∃ m0, m0 = (putN n).length := ⟨_, rfl⟩
  rw [← hm0] at ho1 hpn ⊢
  clear hp1 hm0
  go_wp2
  go_loopw [3, 4] (fun o i wr => ∃ (k m c : Nat) (ao : Option Addr), k ≤ n ∧ i = .int .i64 k ∧ o = .slice ao m c ∧ Own w.heap.size wr ao m c (putN n ++ encParts (bss.take k)) ∧ Below w.heap.size w wr) (fun _ i _ => n - (intOf i).toNat)
  case atStart => exact ⟨0, m0, c1, a1, Nat.zero_le _, rfl, rfl, by rw [List.take_zero, encParts_nil, List.append_nil]; exact ho1, hb1⟩
  case round =>
    obtain ⟨k, m, c, ao, hk, rfl, rfl, hor, hbr⟩ := hrel
    have hws := hbr.size
    have hmb : m ≤ 9 + 9 * n + 2097152 := by
      have h1 := hor.length
      rw [List.length_append] at h1
      have h2 := encParts_len bss k n HL.out HT.out
      have h3 : (putN n).length ≤ 9 := by rw [putN, putL_len]; exact cnt_le n (by omega)
      omega
    by_cases hlt : k < n
    · obtain ⟨b, off, rfl, hb, ak, nk, ck, hc, hrk, hnk⟩ := H0.out.get k hlt
      have hcr : wr.cell? ⟨b, off + k, none⟩ = some (.slice ak nk ck) := (hbr.cell (p := ⟨b, off + k, none⟩) hb).trans hc
      clear hc
      have hkl : k < bss.length := by have := HL.out; omega
      have hpk : nk ≤ 2097152 := by rw [← hrk.len]; exact part_le bss k hkl HT.out
      have hnki : (nk : Int) ≤ 2097152 := by omega
      go_wp2_with fail
      refine (specPutNum_any (nk : Int) _ (by omega)).mono ?_
      rintro e w2 ⟨a2, c2, rfl, ho2, hb2⟩
      have hp2 : putI (nk : Int) = putN nk := by rw [putI, if_neg (by omega), Int.toNat_natCast]
      rw [hp2] at ho2 ⊢
      have hpn2 : (putN nk).length ≤ 9 := by rw [putN, putL_len]; exact cnt_le nk (by omega)
      obtain ⟨m2, hm2⟩ : ∃ m2, m2 = (putN nk).length := ⟨_, rfl⟩
      rw [← hm2] at ho2 hpn2 ⊢
      have hs2 := hb2.size
      have hor2 := hor.kept hb2
      have hbr2 : Below w.heap.size w w2 := hbr.trans (hb2.mono hws)
      have hcr2 : w2.cell? ⟨b, off + k, none⟩ = some (.slice ak nk ck) := (hb2.cell (p := ⟨b, off + k, none⟩) (by show b < _; omega)).trans hcr
      have hrk2 : Row w2 ak nk (bss.getD k []) := hrk.kept hbr2
      clear hp2 hm2 hor hbr hb2 hcr
      go_wp2_with (first | (at_builtin; refine wpList_append_row _ rfl (.tmp 14) (.tmp 20) 35 rfl w.heap.size i0 Tryz.underlying35 hi hz0 hz1 hz2 _ _ _ rfl hor2.row a2 m2 c2 (putN nk) rfl ho2.toRow ho2.nil (by omega) (by omega) ?_; intro v3 w3 hv3 hg3; obtain ⟨a3, c3, rfl, ho3⟩ := own_appended (ys := putN nk) hv3 hor2.byte ho2.byte; have hbr3 : Below w.heap.size w w3 := below_appended hbr2 (by omega) hor2.row hg3; have hcr3 : w3.cell? ⟨b, off + k, none⟩ = some (.slice ak nk ck) := (hbr3.cell (p := ⟨b, off + k, none⟩) hb).trans ((hbr2.cell (p := ⟨b, off + k, none⟩) hb).symm.trans hcr2); have hrk3 : Row w3 ak nk (bss.getD k []) := hrk.kept hbr3) | (at_builtin; refine wpList_append_row _ rfl (.tmp 22) (.tmp 26) 35 rfl w.heap.size i0 Tryz.underlying35 hi hz0 hz1 hz2 _ _ _ rfl ho3.row ak nk ck (bss.getD k []) rfl hrk3 hnk (by omega) (by have := hbr3.size; omega) ?_; intro v4 w4 hv4 hg4))
      obtain ⟨a4, c4, rfl, ho4⟩ := own_appended (ys := bss.getD k []) hv4 ho3.byte hrk3.byte
      have hbr4 : Below w.heap.size w w4 := below_appended hbr3 (by have := hbr3.size; omega) ho3.row hg4
      have he : putN n ++ encParts (bss.take k) ++ putN nk ++ bss.getD k [] = putN n ++ encParts (bss.take (k + 1)) := by rw [encParts_next bss k hkl, hrk3.len]; simp only [List.append_assoc]
      rw [he] at ho4
      go_roundw
      case rel => exact ⟨k + 1, m + m2 + nk, c4, a4, by omega, by go_num, rfl, ho4, hbr4⟩
      case measure => simp [intOf]; omega
    · have hkn : k = n := by omega
      subst hkn
      have he : putN k ++ encParts (bss.take k) = partsL bss := by rw [List.take_of_length_le (by have := HL.out; omega), partsL, HL.out]
      rw [he] at hor
      go_wp2_with fail
      refine (specHash_any ao m c (partsL bss) _ hor.toRow (by omega)).mono ?_
      rintro e w5 ⟨rfl, hw5⟩
      subst hw5
      go_wp2
      go_ret
      exact ⟨rfl, hbr⟩

set_option maxRecDepth 10000 in
set_option maxHeartbeats 1000000 in
theorem implHashParts_any (a : Option Addr) (n cap : Nat) (bss : List (List Int)) (w : World) (h : Rows2 w a n bss) (hn : n ≤ 2097152) (ht : total bss ≤ 2097152) :
    Calls Tryz.prog 125 #[.slice a n cap] w fun e w' => e = .returned (.int .u64 (hashL (partsL bss))) ∧ Below w.heap.size w w' := by
  obtain ⟨i0, hi, hz0, hz1, hz2⟩ := info_parts Tryz.info5
  have H0 : Hid (Rows2 w a n bss) := h
  have HL : Hid (bss.length = n) := h.len
  have HT : Hid (total bss ≤ 2097152) := ht
  clear h ht
  go_enter Tryz.func125, Tryz.ntmps125
  go_wp2_with fail
  refine (implPutNum_any (n : Int) _ (by omega)).mono ?_
  rintro e w1 ⟨a1, c1, rfl, ho1, hb1⟩
  have hp1 : putI (n : Int) = putN n := by rw [putI, if_neg (by omega), Int.toNat_natCast]
  rw [hp1] at ho1 ⊢
  have hpn : (putN n).length ≤ 9 := by rw [putN, putL_len]; exact cnt_le n (by omega)
  obtain ⟨m0, hm0⟩ : ∃ m0, m0 = (putN n).length := ⟨_, rfl⟩
  rw [← hm0] at ho1 hpn ⊢
  clear hp1 hm0
  go_wp2
  go_loopw [3, 11] (fun o i wr => ∃ (k m c : Nat) (ao : Option Addr), k ≤ n ∧ i = .int .i64 k ∧ o = .slice ao m c ∧ Own w.heap.size wr ao m c (putN n ++ encParts (bss.take k)) ∧ Below w.heap.size w wr) (fun _ i _ => n - (intOf i).toNat)
  case atStart => exact ⟨0, m0, c1, a1, Nat.zero_le _, rfl, rfl, by rw [List.take_zero, encParts_nil, List.append_nil]; exact ho1, hb1⟩
  case round =>
    obtain ⟨k, m, c, ao, hk, rfl, rfl, hor, hbr⟩ := hrel
    have hws := hbr.size
    have hmb : m ≤ 9 + 9 * n + 2097152 := by
      have h1 := hor.length
      rw [List.length_append] at h1
      have h2 := encParts_len bss k n HL.out HT.out
      have h3 : (putN n).length ≤ 9 := by rw [putN, putL_len]; exact cnt_le n (by omega)
      omega
    by_cases hlt : k < n
    · obtain ⟨b, off, rfl, hb, ak, nk, ck, hc, hrk, hnk⟩ := H0.out.get k hlt
      have hcr : wr.cell? ⟨b, off + k, none⟩ = some (.slice ak nk ck) := (hbr.cell (p := ⟨b, off + k, none⟩) hb).trans hc
      clear hc
      have hkl : k < bss.length := by have := HL.out; omega
      have hpk : nk ≤ 2097152 := by rw [← hrk.len]; exact part_le bss k hkl HT.out
      have hnki : (nk : Int) ≤ 2097152 := by omega
      go_wp2_with fail
      refine (implPutNum_any (nk : Int) _ (by omega)).mono ?_
      rintro e w2 ⟨a2, c2, rfl, ho2, hb2⟩
      have hp2 : putI (nk : Int) = putN nk := by rw [putI, if_neg (by omega), Int.toNat_natCast]
      rw [hp2] at ho2 ⊢
      have hpn2 : (putN nk).length ≤ 9 := by rw [putN, putL_len]; exact cnt_le nk (by omega)
      obtain ⟨m2, hm2⟩ : ∃ m2, m2 = (putN nk).length := ⟨_, rfl⟩
      rw [← hm2] at ho2 hpn2 ⊢
      have hs2 := hb2.size
      have hor2 := hor.kept hb2
      have hbr2 : Below w.heap.size w w2 := hbr.trans (hb2.mono hws)
      have hcr2 : w2.cell? ⟨b, off + k, none⟩ = some (.slice ak nk ck) := (hb2.cell (p := ⟨b, off + k, none⟩) (by show b < _; omega)).trans hcr
      have hrk2 : Row w2 ak nk (bss.getD k []) := hrk.kept hbr2
      clear hp2 hm2 hor hbr hb2 hcr
      go_wp2_with (first | (at_builtin; refine wpList_append_row _ rfl (.tmp 15) (.tmp 18) 35 rfl w.heap.size i0 Tryz.underlying35 hi hz0 hz1 hz2 _ _ _ rfl hor2.row a2 m2 c2 (putN nk) rfl ho2.toRow ho2.nil (by omega) (by omega) ?_; intro v3 w3 hv3 hg3; obtain ⟨a3, c3, rfl, ho3⟩ := own_appended (ys := putN nk) hv3 hor2.byte ho2.byte; have hbr3 : Below w.heap.size w w3 := below_appended hbr2 (by omega) hor2.row hg3; have hcr3 : w3.cell? ⟨b, off + k, none⟩ = some (.slice ak nk ck) := (hbr3.cell (p := ⟨b, off + k, none⟩) hb).trans ((hbr2.cell (p := ⟨b, off + k, none⟩) hb).symm.trans hcr2); have hrk3 : Row w3 ak nk (bss.getD k []) := hrk.kept hbr3) | (at_builtin; refine wpList_append_row _ rfl (.tmp 20) (.tmp 21) 35 rfl w.heap.size i0 Tryz.underlying35 hi hz0 hz1 hz2 _ _ _ rfl ho3.row ak nk ck (bss.getD k []) rfl hrk3 hnk (by omega) (by have := hbr3.size; omega) ?_; intro v4 w4 hv4 hg4))
      obtain ⟨a4, c4, rfl, ho4⟩ := own_appended (ys := bss.getD k []) hv4 ho3.byte hrk3.byte
      have hbr4 : Below w.heap.size w w4 := below_appended hbr3 (by have := hbr3.size; omega) ho3.row hg4
      have he : putN n ++ encParts (bss.take k) ++ putN nk ++ bss.getD k [] = putN n ++ encParts (bss.take (k + 1)) := by rw [encParts_next bss k hkl, hrk3.len]; simp only [List.append_assoc]
      rw [he] at ho4
      go_roundw
      case rel => exact ⟨k + 1, m + m2 + nk, c4, a4, by omega, by go_num, rfl, ho4, hbr4⟩
      case measure => simp [intOf]; omega
    · have hkn : k = n := by omega
      subst hkn
      have he : putN k ++ encParts (bss.take k) = partsL bss := by rw [List.take_of_length_le (by have := HL.out; omega), partsL, HL.out]
      rw [he] at hor
      go_wp2_with fail
      refine (implHash_any ao m c (partsL bss) _ hor.toRow (by omega)).mono ?_
      rintro e w5 ⟨rfl, hb5⟩
      go_wp2
      go_ret
      exact ⟨rfl, hbr.trans (hb5.mono hws)⟩

end Go.Proofs.YtglpbgebcpijaaaGreat
