import Derived.Test.YtpnhhhhmonbajaaGreatGH1
import Derived.Test.YtpnhhhhmonbajaaGreatGS
namespace Go.Proofs.YtpnhhhhmonbajaaGreat
open Go.RowKit

def noW : List Int := [110, 111, 110, 99, 101]
theorem noW_byte : ∀ k, 0 ≤ noW.getD k 0 ∧ noW.getD k 0 ≤ 255 := bytes_of_all (by decide)
def nonN (x : Int) (ms : List Int) : Int := 1 + hashL (partsL [noW, putI x, ms]) % 500000002
theorem non_total (x : Int) (ms : List Int) (hr : x ≤ 9223372036854775807) (hn : ms.length ≤ 1048576) : total [noW, putI x, ms] ≤ 2097152 := by
  have h1 := putI_len x hr
  simp [total, noW]
  omega
theorem nonN_bd (x : Int) (ms : List Int) : 1 ≤ nonN x ms ∧ nonN x ms ≤ 500000002 := by unfold nonN; omega
theorem chalN_bd (r y : Int) (ms : List Int) : 0 ≤ chalN r y ms ∧ chalN r y ms ≤ 500000002 := by unfold chalN; omega
theorem keyOf_bd (x : Int) : 0 ≤ keyOf x ∧ keyOf x ≤ 1000000006 := by
  unfold keyOf
  split
  · have := gp_bd 4 x; omega
  · decide
def sigE (x : Int) (ms : List Int) : Int := chalN (gp 4 (nonN x ms)) (keyOf x) ms
def signR (x : Int) (ms : List Int) : (Int × Int) × Bool := if secP x then ((sigE x ms, (nonN x ms + sigE x ms * x) % 500000003), true) else ((0, 0), false)

set_option maxRecDepth 10000 in
set_option maxHeartbeats 2000000 in
theorem implSign_any (x : Int) (a : Option Addr) (n c : Nat) (ms : List Int) (w : World) (h : Row w a n ms) (hn : n ≤ 1048576) (hc : a = none → c = 0) :
    Calls Tryz.prog 124 #[.int .i64 x, .slice a n c] w fun e w' => e = .returned (.tuple #[sigv (signR x ms).1, .bool (signR x ms).2]) ∧ Below w.heap.size w w' := by
  have H0 : Hid (Row w a n ms) := h
  by_cases hs : secP x
  · have HR : Hid (signR x ms = ((sigE x ms, (nonN x ms + sigE x ms * x) % 500000003), true)) := by show _ = _; unfold signR; rw [if_pos hs]
    have hx1 := hs.2
    have hx0 := hs.1
    have HT : Hid (total [noW, putI x, ms] ≤ 2097152) := non_total x ms (by omega) (by rw [h.len]; exact hn)
    have hbx := boxS_new 80 w 0 0
    have hb0 : Below w.heap.size w (w.alloc (.cells #[.int .i64 0, .int .i64 0] 80)) := (Below.refl _ _).alloc (Nat.le_refl _) _
    clear h
    go_enter Tryz.func124, Tryz.ntmps124
    go_wp2_with fail
    refine (isSecret_any x _).mono ?_
    rintro r w1 ⟨rfl, rfl⟩
    rw [decide_eq_true hs]
    obtain ⟨w1, hw1⟩ : ∃ w1, w1 = w.alloc (.cells #[.int .i64 0, .int .i64 0] 80) := ⟨_, rfl⟩
    rw [← hw1] at hbx hb0 ⊢
    clear hw1
    have hcv := Lib.run_convert_bytes_const (P := Tryz.prog) w1 22 5 #[.int .u8 110, .int .u8 111, .int .u8 110, .int .u8 99, .int .u8 101] 5 5 Tryz.underlying22 Tryz.underlying5
    have hrw : Row (w1.alloc (.cells #[.int .u8 110, .int .u8 111, .int .u8 110, .int .u8 99, .int .u8 101] 5 (5, 6))) (some ⟨w1.heap.size, 0, none⟩) 5 noW := row_word w1 noW (5, 6) noW_byte
    have hb2 : Below w1.heap.size w1 (w1.alloc (.cells #[.int .u8 110, .int .u8 111, .int .u8 110, .int .u8 99, .int .u8 101] 5 (5, 6))) := (Below.refl _ _).alloc (Nat.le_refl _) _
    go_wp2_with fail
    clear hcv
    obtain ⟨w2, hw2⟩ : ∃ w2, w2 = w1.alloc (.cells #[.int .u8 110, .int .u8 111, .int .u8 110, .int .u8 99, .int .u8 101] 5 (5, 6)) := ⟨_, rfl⟩
    rw [← hw2] at hrw hb2 ⊢
    clear hw2
    refine (implPutNum_any x _ (by omega)).mono ?_
    rintro e w3 ⟨a1, c1, rfl, ho1, hb3⟩
    obtain ⟨n1, hn1⟩ : ∃ n1, n1 = (putI x).length := ⟨_, rfl⟩
    rw [← hn1] at ho1 ⊢
    clear hn1
    have hs2 := hb2.size
    have D3 : Below w1.heap.size w1 w3 := hb2.trans (hb3.mono hs2)
    have B3 : Below w.heap.size w w3 := hb0.trans (D3.mono hb0.size)
    have HRS : Hid (Rows2 (w3.alloc (.cells #[.slice (some ⟨w1.heap.size, 0, none⟩) 5 5, .slice a1 n1 c1, .slice a n c] 22)) (some ⟨w3.heap.size, 0, none⟩) 3 [noW, putI x, ms]) := by
      refine rows2_lit w3 [(some ⟨w1.heap.size, 0, none⟩, 5, 5, noW), (a1, n1, c1, putI x), (a, n, c, ms)] 22 ?_
      intro p hp
      simp only [List.mem_cons, List.not_mem_nil, or_false] at hp
      rcases hp with rfl | rfl | rfl
      · exact ⟨hrw.kept hb3, fun h => by cases h⟩
      · exact ⟨ho1.toRow, ho1.nil⟩
      · exact ⟨H0.out.kept B3, hc⟩
    have D4 : Below w1.heap.size w1 (w3.alloc (.cells #[.slice (some ⟨w1.heap.size, 0, none⟩) 5 5, .slice a1 n1 c1, .slice a n c] 22)) := D3.alloc D3.size _
    clear hrw ho1 hb3 hb2
    go_wp2_with fail
    refine (implHashParts_any _ 3 3 [noW, putI x, ms] _ HRS.out (by decide) HT.out).mono ?_
    rintro e w4 ⟨rfl, hb4⟩
    have D5 : Below w1.heap.size w1 w4 := D4.trans (hb4.mono D4.size)
    have B5 : Below w.heap.size w w4 := hb0.trans (D5.mono hb0.size)
    clear hb4 D4 HRS D3 B3
    have HK : Hid (1 + hashL (partsL [noW, putI x, ms]) % 500000002 = nonN x ms) := rfl
    obtain ⟨hh, hhe⟩ : ∃ hh, hh = hashL (partsL [noW, putI x, ms]) := ⟨_, rfl⟩
    have hhb := hashL_bd (partsL [noW, putI x, ms])
    rw [← hhe] at HK hhb ⊢
    obtain ⟨hh0, hh1⟩ := hhb
    clear hhe
    obtain ⟨hk0, hk1⟩ := nonN_bd x ms
    go_wp2_with fail
    rw [HK.out]
    obtain ⟨k, hk⟩ : ∃ k, k = nonN x ms := ⟨_, rfl⟩
    have HK2 : Hid (k = nonN x ms) := hk
    rw [← hk] at hk0 hk1 HK ⊢
    clear hk
    refine (power_any 4 k _ (by decide) (by decide) (by omega) (by omega)).mono ?_
    rintro e w5 ⟨rfl, rfl⟩
    go_wp2_with fail
    refine (implKeyOf_any x _).mono ?_
    rintro e w5 ⟨rfl, rfl⟩
    have hg := gp_bd 4 k
    have hky := keyOf_bd x
    go_wp2_with fail
    refine (implChallenge_any (gp 4 k) (keyOf x) a n c ms _ (H0.out.kept B5) hn hc (by omega) (by omega)).mono ?_
    rintro e w6 ⟨rfl, hb6⟩
    have hch := chalN_bd (gp 4 k) (keyOf x) ms
    have HE : Hid (chalN (gp 4 k) (keyOf x) ms = sigE x ms) := by show _ = _; rw [HK2.out]; rfl
    obtain ⟨ee, hee⟩ : ∃ ee, ee = chalN (gp 4 k) (keyOf x) ms := ⟨_, rfl⟩
    rw [← hee] at HE hch ⊢
    clear hee hg hky
    go_wp2_with fail
    refine (answerTo_any k ee x _ ⟨by omega, by omega⟩ hch ⟨by omega, by omega⟩).mono ?_
    rintro e w7 ⟨rfl, rfl⟩
    have D6 : Below w1.heap.size w1 w7 := D5.trans (hb6.mono D5.size)
    have hbx6 := (hbx.kept D6)
    have hc0 := hbx6.c0
    have hc1 := hbx6.c1
    have hf0 := hbx6.fr 0
    have hf1 := hbx6.fr 1
    have HBX : Hid (_) := hbx6
    have B6 : Below w.heap.size w w7 := hb0.trans (D6.mono hb0.size)
    clear hbx6 hbx
    go_wp2
    try simp only [Exit.inBlock, Exit.then]
    refine bodyPost_ret (results_sig2 rfl _ w.heap.size rfl _ rfl _ _ (HBX.out.set ee ((k + ee * x) % 500000003))) rfl ⟨?_, below_set2 B6 _ (Nat.le_refl _) _ _⟩
    rw [HR.out, ← HE.out, ← HK2.out]
    rfl
  · have HR : Hid (signR x ms = ((0, 0), false)) := by show _ = _; unfold signR; rw [if_neg hs]
    have hbx := boxS_new 80 w 0 0
    have hb0 : Below w.heap.size w (w.alloc (.cells #[.int .i64 0, .int .i64 0] 80)) := (Below.refl _ _).alloc (Nat.le_refl _) _
    clear h
    go_enter Tryz.func124, Tryz.ntmps124
    go_wp2_with fail
    refine (isSecret_any x _).mono ?_
    rintro r w1 ⟨rfl, rfl⟩
    rw [decide_eq_false hs]
    have HBX : Hid (_) := hbx
    clear hbx
    go_wp2
    try simp only [Exit.inBlock, Exit.then]
    refine bodyPost_ret (results_sig2 rfl _ w.heap.size rfl _ rfl _ _ HBX.out) rfl ⟨?_, hb0⟩
    rw [HR.out]
    rfl

set_option maxRecDepth 10000 in
set_option maxHeartbeats 2000000 in
theorem specSign_any (x : Int) (a : Option Addr) (n c : Nat) (ms : List Int) (w : World) (h : Row w a n ms) (hn : n ≤ 1048576) (hc : a = none → c = 0) :
    Calls Tryz.prog 48 #[.int .i64 x, .slice a n c] w fun e w' => e = .returned (.tuple #[sigv (signR x ms).1, .bool (signR x ms).2]) ∧ Below w.heap.size w w' := by
  have H0 : Hid (Row w a n ms) := h
  by_cases hs : secP x
  · have HR : Hid (signR x ms = ((sigE x ms, (nonN x ms + sigE x ms * x) % 500000003), true)) := by show _ = _; unfold signR; rw [if_pos hs]
    have hx1 := hs.2
    have hx0 := hs.1
    have HT : Hid (total [noW, putI x, ms] ≤ 2097152) := non_total x ms (by omega) (by rw [h.len]; exact hn)
    have hbx := boxS_new 80 w 0 0
    have hb0 : Below w.heap.size w (w.alloc (.cells #[.int .i64 0, .int .i64 0] 80)) := (Below.refl _ _).alloc (Nat.le_refl _) _
    clear h
    go_enter Tryz.func48, Tryz.ntmps48
    go_wp2_with fail
    refine (l7Secret_any x _).mono ?_
    rintro r w1 ⟨rfl, rfl⟩
    rw [decide_eq_true hs]
    obtain ⟨w1, hw1⟩ : ∃ w1, w1 = w.alloc (.cells #[.int .i64 0, .int .i64 0] 80) := ⟨_, rfl⟩
    rw [← hw1] at hbx hb0 ⊢
    clear hw1
    have hcv := Lib.run_convert_bytes_const (P := Tryz.prog) w1 22 5 #[.int .u8 110, .int .u8 111, .int .u8 110, .int .u8 99, .int .u8 101] 5 5 Tryz.underlying22 Tryz.underlying5
    have hrw : Row (w1.alloc (.cells #[.int .u8 110, .int .u8 111, .int .u8 110, .int .u8 99, .int .u8 101] 5 (5, 6))) (some ⟨w1.heap.size, 0, none⟩) 5 noW := row_word w1 noW (5, 6) noW_byte
    have hb2 : Below w1.heap.size w1 (w1.alloc (.cells #[.int .u8 110, .int .u8 111, .int .u8 110, .int .u8 99, .int .u8 101] 5 (5, 6))) := (Below.refl _ _).alloc (Nat.le_refl _) _
    go_wp2_with fail
    clear hcv
    obtain ⟨w2, hw2⟩ : ∃ w2, w2 = w1.alloc (.cells #[.int .u8 110, .int .u8 111, .int .u8 110, .int .u8 99, .int .u8 101] 5 (5, 6)) := ⟨_, rfl⟩
    rw [← hw2] at hrw hb2 ⊢
    clear hw2
    refine (specPutNum_any x _ (by omega)).mono ?_
    rintro e w3 ⟨a1, c1, rfl, ho1, hb3⟩
    obtain ⟨n1, hn1⟩ : ∃ n1, n1 = (putI x).length := ⟨_, rfl⟩
    rw [← hn1] at ho1 ⊢
    clear hn1
    have hs2 := hb2.size
    have D3 : Below w1.heap.size w1 w3 := hb2.trans (hb3.mono hs2)
    have B3 : Below w.heap.size w w3 := hb0.trans (D3.mono hb0.size)
    have HRS : Hid (Rows2 (w3.alloc (.cells #[.slice (some ⟨w1.heap.size, 0, none⟩) 5 5, .slice a1 n1 c1, .slice a n c] 22)) (some ⟨w3.heap.size, 0, none⟩) 3 [noW, putI x, ms]) := by
      refine rows2_lit w3 [(some ⟨w1.heap.size, 0, none⟩, 5, 5, noW), (a1, n1, c1, putI x), (a, n, c, ms)] 22 ?_
      intro p hp
      simp only [List.mem_cons, List.not_mem_nil, or_false] at hp
      rcases hp with rfl | rfl | rfl
      · exact ⟨hrw.kept hb3, fun h => by cases h⟩
      · exact ⟨ho1.toRow, ho1.nil⟩
      · exact ⟨H0.out.kept B3, hc⟩
    have D4 : Below w1.heap.size w1 (w3.alloc (.cells #[.slice (some ⟨w1.heap.size, 0, none⟩) 5 5, .slice a1 n1 c1, .slice a n c] 22)) := D3.alloc D3.size _
    clear hrw ho1 hb3 hb2
    go_wp2_with fail
    refine (specHashAll_any _ 3 3 [noW, putI x, ms] _ HRS.out (by decide) HT.out).mono ?_
    rintro e w4 ⟨rfl, hb4⟩
    have D5 : Below w1.heap.size w1 w4 := D4.trans (hb4.mono D4.size)
    have B5 : Below w.heap.size w w4 := hb0.trans (D5.mono hb0.size)
    clear hb4 D4 HRS D3 B3
    have HK : Hid (1 + hashL (partsL [noW, putI x, ms]) % 500000002 = nonN x ms) := rfl
    obtain ⟨hh, hhe⟩ : ∃ hh, hh = hashL (partsL [noW, putI x, ms]) := ⟨_, rfl⟩
    have hhb := hashL_bd (partsL [noW, putI x, ms])
    rw [← hhe] at HK hhb ⊢
    obtain ⟨hh0, hh1⟩ := hhb
    clear hhe
    obtain ⟨hk0, hk1⟩ := nonN_bd x ms
    go_wp2_with fail
    rw [HK.out]
    obtain ⟨k, hk⟩ : ∃ k, k = nonN x ms := ⟨_, rfl⟩
    have HK2 : Hid (k = nonN x ms) := hk
    rw [← hk] at hk0 hk1 HK ⊢
    clear hk
    refine (l7PowP_any 4 k _ (by decide) (by decide) (by omega) (by omega)).mono ?_
    rintro e w5 ⟨rfl, rfl⟩
    go_wp2_with fail
    refine (specKeyOf_any x _).mono ?_
    rintro e w5 ⟨rfl, rfl⟩
    have hg := gp_bd 4 k
    have hky := keyOf_bd x
    go_wp2_with fail
    refine (specChallenge_any (gp 4 k) (keyOf x) a n c ms _ (H0.out.kept B5) hn hc (by omega) (by omega)).mono ?_
    rintro e w6 ⟨rfl, hb6⟩
    have hch := chalN_bd (gp 4 k) (keyOf x) ms
    have HE : Hid (chalN (gp 4 k) (keyOf x) ms = sigE x ms) := by show _ = _; rw [HK2.out]; rfl
    obtain ⟨ee, hee⟩ : ∃ ee, ee = chalN (gp 4 k) (keyOf x) ms := ⟨_, rfl⟩
    rw [← hee] at HE hch ⊢
    clear hee hg hky
    obtain ⟨hch0, hch1⟩ := hch
    obtain ⟨hp0, hp1⟩ := prod_bd hch0 (show ee < 1000000007 by omega) (show 0 ≤ x by omega) (show x < 1000000007 by omega) (Int.le_refl _)
    have D6 : Below w1.heap.size w1 w6 := D5.trans (hb6.mono D5.size)
    have hbx6 := (hbx.kept D6)
    have hc0 := hbx6.c0
    have hc1 := hbx6.c1
    have hf0 := hbx6.fr 0
    have hf1 := hbx6.fr 1
    have HBX : Hid (_) := hbx6
    have B6 : Below w.heap.size w w6 := hb0.trans (D6.mono hb0.size)
    clear hbx6 hbx
    go_wp2
    try simp only [Exit.inBlock, Exit.then]
    refine bodyPost_ret (results_sig2 rfl _ w.heap.size rfl _ rfl _ _ (HBX.out.set ee ((k + ee * x) % 500000003))) rfl ⟨?_, below_set2 B6 _ (Nat.le_refl _) _ _⟩
    rw [HR.out, ← HE.out, ← HK2.out]
    rfl
  · have HR : Hid (signR x ms = ((0, 0), false)) := by show _ = _; unfold signR; rw [if_neg hs]
    have hbx := boxS_new 80 w 0 0
    have hb0 : Below w.heap.size w (w.alloc (.cells #[.int .i64 0, .int .i64 0] 80)) := (Below.refl _ _).alloc (Nat.le_refl _) _
    clear h
    go_enter Tryz.func48, Tryz.ntmps48
    go_wp2_with fail
    refine (l7Secret_any x _).mono ?_
    rintro r w1 ⟨rfl, rfl⟩
    rw [decide_eq_false hs]
    have HBX : Hid (_) := hbx
    clear hbx
    go_wp2
    try simp only [Exit.inBlock, Exit.then]
    refine bodyPost_ret (results_sig2 rfl _ w.heap.size rfl _ rfl _ _ HBX.out) rfl ⟨?_, hb0⟩
    rw [HR.out]
    rfl

theorem keep_first {w w1 w2 : World} (h : Below w.heap.size w w1) (k : Below w1.heap.size w1 w2) : Below w.heap.size w w2 := h.trans (k.mono h.size)

end Go.Proofs.YtpnhhhhmonbajaaGreat
