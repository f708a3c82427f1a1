import Derived.Test.YtaiflnccpgcklaaDoorSS1
import Derived.Test.YtaiflnccpgcklaaDoorSS3
namespace Go.Proofs.YtaiflnccpgcklaaDoor
open Go.RowKit

def textB (xs : List ST) (k : Nat) : ByteArray := ⟨(showL xs k).toArray⟩
theorem textB_data (xs : List ST) (k : Nat) : (textB xs k).data.toList = showL xs k := by simp [textB]
theorem textB_size {xs : List ST} (h : schP xs) (k : Nat) (hk : k ≤ xs.length) : (textB xs k).size ≤ 16000 := by
  have h1 := show_len h k hk
  have h2 := h.2.1
  rw [Lib.size_eq, textB_data]
  omega
theorem ba_len (l : List UInt8) : (⟨l.toArray⟩ : ByteArray).size = l.length := List.size_toArray
/-- What a teller of schemas answers. -/
def ShowsP (xs : List ST) (w : World) (e : Ending) (w' : World) : Prop :=
  ∃ (s : ByteArray) (b : Bool), e = .returned (.tuple #[.string s, .bool b]) ∧ Hid ((b = true ∧ schP xs ∧ s = textB xs xs.length) ∨ (b = false ∧ ¬ schP xs ∧ s = ByteArray.empty)) ∧ Below w.heap.size w w'

set_option maxRecDepth 10000 in
set_option maxHeartbeats 1000000 in
theorem implShow_any (a : Option Addr) (n c : Nat) (xs : List ST) (w : World) (h : Sts w a n xs) (hF : FormW w) (hP : PowW w) :
    Calls Tryd.prog 7 #[.slice a n c] w fun e w' => ShowsP xs w e w' := by
  have HS : Hid (Sts w a n xs) := h
  have HL : Hid (xs.length = n) := h.len
  have HF : Hid (FormW w) := hF
  have HP : Hid (PowW w) := hP
  have hn := h.max
  clear h hF hP
  go_enter Tryd.func7, Tryd.ntmps7
  go_wp2_with fail
  refine (implSchemaOk_any a n c xs _ HS.out).mono ?_
  rintro e w1 ⟨bv, rfl, hbv, hb1⟩
  cases bv with
  | false =>
    have HN : Hid (¬ schP xs) := fun h => by have := hbv.out.mpr h; cases this
    clear hbv
    go_wp2
    go_ret2
    exact ⟨_, false, rfl, .inr ⟨rfl, HN.out, rfl⟩, hb1⟩
  | true =>
    have HSC : Hid (schP xs) := hbv.out.mp rfl
    clear hbv
    go_wp2_with fail
    go_loopw [4, 12] (fun s i wr => ∃ t : Nat, t ≤ n ∧ i = .int .i64 t ∧ s = .string (textB xs t) ∧ Below w.heap.size w wr) (fun _ i _ => n - (intOf i).toNat)
    case atStart => exact ⟨0, Nat.zero_le _, rfl, rfl, hb1⟩
    case round =>
      obtain ⟨t, ht, rfl, rfl, hbr⟩ := hrel
      by_cases htn : t < n
      · obtain ⟨b, off, rfl, hlb, ak, nk, ck, hcs, hr, hnk⟩ := HS.out.get t htn
        obtain ⟨x, hx⟩ : ∃ x, x = xs.getD t default := ⟨_, rfl⟩
        rw [← hx] at hcs hr
        have hsm : Small x := by rw [hx]; exact sch_small HSC.out t (by rw [HL.out]; exact htn)
        have ht40 : t ≤ 40 := by have := HSC.out.2.1; rw [HL.out] at this; omega
        obtain ⟨kd, hkd⟩ : ∃ kd : Nat, x.kind = kd := ⟨x.kind.toNat, by have := hsm.k1; omega⟩
        obtain ⟨L, hL⟩ : ∃ L, L = num t :: kword kd :: restW x := ⟨_, rfl⟩
        obtain ⟨J, hJ⟩ : ∃ J : ByteArray, J = ⟨(Lib.join (L.map (·.data.toList)) (⟨#[32]⟩ : ByteArray).data.toList).toArray⟩ := ⟨_, rfl⟩
        have hjl : J.data.toList ++ [10] = lineL t x := by
          rw [hJ, hL, ← line_join, hkd]
          simp
        have hjs : J.size ≤ 400 := by
          have h1 := line_len t x ht40 hsm
          rw [← hjl, List.length_append, ← Lib.size_eq] at h1
          omega
        have HT : Hid (textB xs (t + 1) = textB xs t ++ (J ++ ⟨#[10]⟩)) := by
          refine ba_ext ?_
          rw [textB_data, ba_app, ba_app, textB_data, hjl, showL, ← hx]
        have hts : (textB xs t).size ≤ 16000 := textB_size HSC.out t (by rw [HL.out]; omega)
        have hll : L.length = (restW x).length + 2 := by rw [hL]; simp
        have hl18 : L.length ≤ 18 := by have := (wsz_rest hsm).2; omega
        have HJL : Hid ((Lib.join (L.map (·.data.toList)) (⟨#[32]⟩ : ByteArray).data.toList).length ≤ 140737488355328) := by
          have e : J.size = (Lib.join (L.map (·.data.toList)) (⟨#[32]⟩ : ByteArray).data.toList).length := by rw [hJ]; exact ba_len _
          show _ ≤ _
          rw [← e]
          omega
        have HLN : Hid (L.length = (restW x).length + 2) := hll
        clear hll
        have HLL : Hid (L = num t :: kword kd :: restW x) := hL
        have HJ : Hid (J = ⟨(Lib.join (L.map (·.data.toList)) (⟨#[32]⟩ : ByteArray).data.toList).toArray⟩) := hJ
        have HSM : Hid (Small x) := hsm
        have HKD : Hid (x.kind = kd) := hkd
        obtain ⟨c0, c1, c2, c3, c4, c5⟩ := hcs.of (w' := wr) (fun i => hbr.cell (p := ⟨b, i, none⟩) hlb)
        have hs := hbr.size
        have t2 : (t : Int) < (n : Int) := by omega
        have hBA := hbr.alloc hs (.cells #[.int .i64 x.kind, .int .i64 x.lo, .int .i64 x.hi, .bool x.ext, .bool x.opt, .slice ak nk ck] 35)
        have HR : Hid (Row64 w ak nk x.kids) := hr
        clear hcs hx hr hL hJ hjl hsm hkd
        go_wp2_with fail
        refine (typeWords_any t kd x ak nk ck _ (HF.out.kept hBA) (HP.out.kept hBA) HSM.out (HR.out.kept hBA) HKD.out ht40).mono ?_
        rintro e w2 ⟨ao, len, cp, rfl, hlen, hst, hb2⟩
        have hB2 : Below w.heap.size w w2 := hBA.trans (hb2.mono hBA.size)
        obtain ⟨g, rfl, hg, hcell⟩ := hst.get (by omega)
        obtain ⟨hcp, _⟩ := hst.caps
        rw [← HLL.out] at hcell
        obtain rfl : len = L.length := by have := HLN.out; omega
        have HC : Hid (∀ (j : Nat) y, L[j]? = some y → w2.cell? ⟨g, 0 + j, none⟩ = some (.string y)) := fun j y hy => by
          obtain ⟨hj, e⟩ := List.getElem?_eq_some_iff.1 hy
          rw [Nat.zero_add, hcell j hj]
          simp [hj, e]
        clear hst hcell hb2 hBA hlen
        go_wp2_with fail
        refine (Tryd.strings_Join g 0 cp L ⟨#[32]⟩ _ HC.out hg (by omega) hcp HJL.out).mono ?_
        rintro e w3 ⟨he, hb3⟩
        have he2 : e = .returned (.string J) := he.trans (congrArg (fun q => Ending.returned (.string q)) HJ.out.symm)
        subst he2
        have hB3 : Below w.heap.size w w3 := hB2.trans (hb3.mono hB2.size)
        have q1 : ¬ (9223372036854775807 < J.size + 1) := by omega
        have q2 : ¬ (9223372036854775807 < (textB xs t).size + (J.size + 1)) := by omega
        clear he hb3 HC
        go_wp2
        go_roundw
        case rel => exact ⟨t + 1, by omega, by go_num, by rw [HT.out], hB3⟩
        case measure => simp [intOf]; omega
      · have htn2 : t = n := by omega
        have HT : Hid (textB xs t = textB xs xs.length) := by rw [HL.out, htn2]; exact rfl
        go_wp2
        go_ret2
        exact ⟨_, true, rfl, .inl ⟨rfl, HSC.out, HT.out⟩, hbr⟩

end Go.Proofs.YtaiflnccpgcklaaDoor
