import Derived.Lib.SlBytesConst
import Derived.Laws.Closers25b
import Derived.Test.YtkdandggklpppaaGreatDoorFE13
set_option maxRecDepth 10000
set_option maxHeartbeats 8000000
set_option linter.unusedVariables false
namespace Go.Proofs.YtkdandggklpppaaGreatDoor
open Go.RowKit
def cellsOf (ps:List (Option Addr × Nat × Nat × List Int)):Array Value:=(ps.map fun p=>Value.slice p.1 p.2.1 p.2.2.1).toArray
theorem rows2_lit (w:World)(ps:List (Option Addr × Nat × Nat × List Int))(T:Nat)(h:∀ p∈ps,Row w p.1 p.2.1 p.2.2.2∧(p.1=none→p.2.2.1=0)) :
  Rows2 (w.alloc (.cells (cellsOf ps) T)) (some ⟨w.heap.size,0,none⟩) ps.length (ps.map fun p=>p.2.2.2):=by
 have hb:Below w.heap.size w (w.alloc (.cells (cellsOf ps) T)):=(Below.refl _ _).alloc (Nat.le_refl _) _
 refine ⟨by simp,fun k hk=>⟨w.heap.size,0,rfl,by simp,ps[k].1,ps[k].2.1,ps[k].2.2.1,?_,?_,(h ps[k] (List.getElem_mem hk)).2⟩⟩
 ·rw [Nat.zero_add,cell_of_row _ w.heap.size k _ T _ (heap_alloc_new w _)]
  simp [cellsOf,hk]
 ·have e:(ps.map fun p=>p.2.2.2).getD k []=ps[k].2.2.2:=by simp [hk]
  rw [e]
  exact (h ps[k] (List.getElem_mem hk)).1.kept hb
def wordC (bs:List Int):Array Value:=(bs.map (Value.int .u8)).toArray
theorem row_word (w:World)(bs:List Int)(fr:Nat × Nat)(h:∀ k,0≤bs.getD k 0∧bs.getD k 0≤255):Row (w.alloc (.cells (wordC bs) 5 fr)) (some ⟨w.heap.size,0,none⟩) bs.length bs:=by
 refine ⟨rfl,fun k hk=>⟨w.heap.size,0,rfl,by simp,?_⟩,h⟩
 rw [Nat.zero_add,cell_of_row _ w.heap.size k _ 5 _ (heap_alloc_new w _)]
 simp [wordC,hk]
theorem bytes_of_all {bs:List Int}(h:∀ x∈bs,0≤x∧x≤255):∀ k,0≤bs.getD k 0∧bs.getD k 0≤255:=by
 intro k
 rw [List.getD_eq_getElem?_getD]
 by_cases hk:k<bs.length
 ·rw [List.getElem?_eq_getElem hk]; exact h _ (List.getElem_mem hk)
 ·rw [List.getElem?_eq_none (by omega)]; simp
theorem hashL_bd (bs:List Int):0≤hashL bs∧hashL bs≤18446744073709551615 :=
 ⟨(bits_within .xor .u64 _ _).1,(bits_within .xor .u64 _ _).2⟩
def chW:List Int:=[99,104,97,108,108,101,110,103,101]
theorem chW_byte:∀ k,0≤chW.getD k 0∧chW.getD k 0≤255:=bytes_of_all (by decide)
def chalN (r y:Int)(ms:List Int):Int:=hashL (partsL [chW,putI r,putI y,ms]) % 500000003
theorem chal_total (r y:Int)(ms:List Int)(hr:r≤9223372036854775807)(hy:y≤9223372036854775807)(hn:ms.length≤1048576):total [chW,putI r,putI y,ms]≤2097152:=by
 have h1:=putI_len r hr
 have h2:=putI_len y hy
 simp [total,chW]
 omega
theorem implChallenge_any (r y:Int)(a:Option Addr)(n c:Nat)(ms:List Int)(w:World)(h:Row w a n ms)(hn:n≤1048576)(hc:a=none→c=0)(hr:r≤9223372036854775807)(hy:y≤9223372036854775807) :
  Calls Tryz.prog 156 #[.int .i64 r,.int .i64 y,.slice a n c] w fun e w'=>e=.returned (.int .i64 (chalN r y ms))∧Below w.heap.size w w':=by
 have H0:Hid (Row w a n ms):=h
 have HT:Hid (total [chW,putI r,putI y,ms]≤2097152):=chal_total r y ms hr hy (by rw [h.len]; exact hn)
 clear h
 have hcv:=Lib.run_convert_bytes_const (P:=Tryz.prog) w 26 5 #[.int .u8 99,.int .u8 104,.int .u8 97,.int .u8 108,.int .u8 108,.int .u8 101,.int .u8 110,.int .u8 103,.int .u8 101] 9 9 Tryz.underlying26 Tryz.underlying5
 have hrw:Row (w.alloc (.cells #[.int .u8 99,.int .u8 104,.int .u8 97,.int .u8 108,.int .u8 108,.int .u8 101,.int .u8 110,.int .u8 103,.int .u8 101] 5 (9,10))) (some ⟨w.heap.size,0,none⟩) 9 chW:=row_word w chW (9,10) chW_byte
 have hb0:Below w.heap.size w (w.alloc (.cells #[.int .u8 99,.int .u8 104,.int .u8 97,.int .u8 108,.int .u8 108,.int .u8 101,.int .u8 110,.int .u8 103,.int .u8 101] 5 (9,10))):=(Below.refl _ _).alloc (Nat.le_refl _) _
 go_enter Tryz.func156,Tryz.ntmps156
 go_wp2_with fail
 clear hcv
 obtain ⟨w0,hw0⟩:∃ w0,w0=w.alloc (.cells #[.int .u8 99,.int .u8 104,.int .u8 97,.int .u8 108,.int .u8 108,.int .u8 101,.int .u8 110,.int .u8 103,.int .u8 101] 5 (9,10)):=⟨_,rfl⟩
 rw [← hw0] at hrw hb0 ⊢
 clear hw0
 refine (implPutNum_any r _ hr).mono ?_
 rintro e w1 ⟨a1,c1,rfl,ho1,hb1⟩
 obtain ⟨n1,hn1⟩:∃ n1,n1=(putI r).length:=⟨_,rfl⟩
 rw [← hn1] at ho1 ⊢
 clear hn1
 go_wp2_with fail
 refine (implPutNum_any y _ hy).mono ?_
 rintro e w2 ⟨a2,c2,rfl,ho2,hb2⟩
 obtain ⟨n2,hn2⟩:∃ n2,n2=(putI y).length:=⟨_,rfl⟩
 rw [← hn2] at ho2 ⊢
 clear hn2
 have hs1:=hb1.size
 have B2:Below w0.heap.size w0 w2:=hb1.trans (hb2.mono hs1)
 have B2':Below w.heap.size w w2:=hb0.trans (B2.mono hb0.size)
 have HRS:Hid (Rows2 (w2.alloc (.cells #[.slice (some ⟨w.heap.size,0,none⟩) 9 9,.slice a1 n1 c1,.slice a2 n2 c2,.slice a n c] 26)) (some ⟨w2.heap.size,0,none⟩) 4 [chW,putI r,putI y,ms]):=by
  refine rows2_lit w2 [(some ⟨w.heap.size,0,none⟩,9,9,chW),(a1,n1,c1,putI r),(a2,n2,c2,putI y),(a,n,c,ms)] 26 ?_
  intro p hp
  simp only [List.mem_cons,List.not_mem_nil,or_false] at hp
  rcases hp with rfl | rfl | rfl | rfl
  ·exact ⟨hrw.kept B2,fun h=>by cases h⟩
  ·exact ⟨(ho1.kept hb2).toRow,ho1.nil⟩
  ·exact ⟨ho2.toRow,ho2.nil⟩
  ·exact ⟨H0.out.kept B2',hc⟩
 have B3:Below w.heap.size w (w2.alloc (.cells #[.slice (some ⟨w.heap.size,0,none⟩) 9 9,.slice a1 n1 c1,.slice a2 n2 c2,.slice a n c] 26)):=B2'.alloc B2'.size _
 go_wp2_with fail
 refine (implHashParts_any _ 4 4 [chW,putI r,putI y,ms] _ HRS.out (by decide) HT.out).mono ?_
 rintro e w3 ⟨rfl,hb3⟩
 have HV:Hid (hashL (partsL [chW,putI r,putI y,ms]) % 500000003=chalN r y ms):=rfl
 obtain ⟨hh,hhe⟩:∃ hh,hh=hashL (partsL [chW,putI r,putI y,ms]):=⟨_,rfl⟩
 have hhb:=hashL_bd (partsL [chW,putI r,putI y,ms])
 rw [← hhe] at HV hhb ⊢
 obtain ⟨hh0,hh1⟩:=hhb
 clear hhe
 go_wp2
 go_ret
 exact ⟨by rw [← HV.out]; rfl,B3.trans (hb3.mono B3.size)⟩
theorem specChallenge_any (r y:Int)(a:Option Addr)(n c:Nat)(ms:List Int)(w:World)(h:Row w a n ms)(hn:n≤1048576)(hc:a=none→c=0)(hr:r≤9223372036854775807)(hy:y≤9223372036854775807) :
  Calls Tryz.prog 66 #[.int .i64 r,.int .i64 y,.slice a n c] w fun e w'=>e=.returned (.int .i64 (chalN r y ms))∧Below w.heap.size w w':=by
 have H0:Hid (Row w a n ms):=h
 have HT:Hid (total [chW,putI r,putI y,ms]≤2097152):=chal_total r y ms hr hy (by rw [h.len]; exact hn)
 clear h
 have hcv:=Lib.run_convert_bytes_const (P:=Tryz.prog) w 26 5 #[.int .u8 99,.int .u8 104,.int .u8 97,.int .u8 108,.int .u8 108,.int .u8 101,.int .u8 110,.int .u8 103,.int .u8 101] 9 9 Tryz.underlying26 Tryz.underlying5
 have hrw:Row (w.alloc (.cells #[.int .u8 99,.int .u8 104,.int .u8 97,.int .u8 108,.int .u8 108,.int .u8 101,.int .u8 110,.int .u8 103,.int .u8 101] 5 (9,10))) (some ⟨w.heap.size,0,none⟩) 9 chW:=row_word w chW (9,10) chW_byte
 have hb0:Below w.heap.size w (w.alloc (.cells #[.int .u8 99,.int .u8 104,.int .u8 97,.int .u8 108,.int .u8 108,.int .u8 101,.int .u8 110,.int .u8 103,.int .u8 101] 5 (9,10))):=(Below.refl _ _).alloc (Nat.le_refl _) _
 go_enter Tryz.func66,Tryz.ntmps66
 go_wp2_with fail
 clear hcv
 obtain ⟨w0,hw0⟩:∃ w0,w0=w.alloc (.cells #[.int .u8 99,.int .u8 104,.int .u8 97,.int .u8 108,.int .u8 108,.int .u8 101,.int .u8 110,.int .u8 103,.int .u8 101] 5 (9,10)):=⟨_,rfl⟩
 rw [← hw0] at hrw hb0 ⊢
 clear hw0
 refine (specPutNum_any r _ hr).mono ?_
 rintro e w1 ⟨a1,c1,rfl,ho1,hb1⟩
 obtain ⟨n1,hn1⟩:∃ n1,n1=(putI r).length:=⟨_,rfl⟩
 rw [← hn1] at ho1 ⊢
 clear hn1
 go_wp2_with fail
 refine (specPutNum_any y _ hy).mono ?_
 rintro e w2 ⟨a2,c2,rfl,ho2,hb2⟩
 obtain ⟨n2,hn2⟩:∃ n2,n2=(putI y).length:=⟨_,rfl⟩
 rw [← hn2] at ho2 ⊢
 clear hn2
 have hs1:=hb1.size
 have B2:Below w0.heap.size w0 w2:=hb1.trans (hb2.mono hs1)
 have B2':Below w.heap.size w w2:=hb0.trans (B2.mono hb0.size)
 have HRS:Hid (Rows2 (w2.alloc (.cells #[.slice (some ⟨w.heap.size,0,none⟩) 9 9,.slice a1 n1 c1,.slice a2 n2 c2,.slice a n c] 26)) (some ⟨w2.heap.size,0,none⟩) 4 [chW,putI r,putI y,ms]):=by
  refine rows2_lit w2 [(some ⟨w.heap.size,0,none⟩,9,9,chW),(a1,n1,c1,putI r),(a2,n2,c2,putI y),(a,n,c,ms)] 26 ?_
  intro p hp
  simp only [List.mem_cons,List.not_mem_nil,or_false] at hp
  rcases hp with rfl | rfl | rfl | rfl
  ·exact ⟨hrw.kept B2,fun h=>by cases h⟩
  ·exact ⟨(ho1.kept hb2).toRow,ho1.nil⟩
  ·exact ⟨ho2.toRow,ho2.nil⟩
  ·exact ⟨H0.out.kept B2',hc⟩
 have B3:Below w.heap.size w (w2.alloc (.cells #[.slice (some ⟨w.heap.size,0,none⟩) 9 9,.slice a1 n1 c1,.slice a2 n2 c2,.slice a n c] 26)):=B2'.alloc B2'.size _
 go_wp2_with fail
 refine (specHashAll_any _ 4 4 [chW,putI r,putI y,ms] _ HRS.out (by decide) HT.out).mono ?_
 rintro e w3 ⟨rfl,hb3⟩
 have HV:Hid (hashL (partsL [chW,putI r,putI y,ms]) % 500000003=chalN r y ms):=rfl
 obtain ⟨hh,hhe⟩:∃ hh,hh=hashL (partsL [chW,putI r,putI y,ms]):=⟨_,rfl⟩
 have hhb:=hashL_bd (partsL [chW,putI r,putI y,ms])
 rw [← hhe] at HV hhb ⊢
 obtain ⟨hh0,hh1⟩:=hhb
 clear hhe
 go_wp2
 go_ret
 exact ⟨by rw [← HV.out]; rfl,B3.trans (hb3.mono B3.size)⟩
end Go.Proofs.YtkdandggklpppaaGreatDoor
