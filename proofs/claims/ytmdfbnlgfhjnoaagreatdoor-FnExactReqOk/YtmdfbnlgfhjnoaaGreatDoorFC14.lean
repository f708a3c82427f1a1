import Derived.Lib.SlBytesConst
import Derived.Laws.Closers25b
import Derived.Test.YtmdfbnlgfhjnoaaGreatDoorFC10
set_option maxRecDepth 10000
set_option maxHeartbeats 8000000
set_option linter.unusedVariables false
namespace Go.Proofs.YtmdfbnlgfhjnoaaGreatDoor
open Go.RowKit
def cellsOf (ps:List (Option Addr × Nat × Nat × List Int)):Array Value:=(ps.map fun p=>Value.slice p.1 p.2.1 p.2.2.1).toArray
theorem rows2_lit (w:World)(ps:List (Option Addr × Nat × Nat × List Int))(T:Nat)(h:∀ p∈ps,Row w p.1 p.2.1 p.2.2.2∧(p.1=none→p.2.2.1=0)) :
  Rows2 (w.alloc (.cells (cellsOf ps) T)) (some ⟨w.heap.size,0,none⟩) ps.length (ps.map fun p=>p.2.2.2):=by
 have hb:Below w.heap.size w (w.alloc (.cells (cellsOf ps) T)):=(Below.refl _ _).alloc (Nat.le_refl _) _
 refine ⟨by simp,fun k hk=>⟨w.heap.size,0,rfl,by simp,ps[k].1,ps[k].2.1,ps[k].2.2.1,?_,?_,(h ps[k] (List.getElem_mem hk)).2⟩⟩
 ·rw [Nat.zero_add,cell_of_row _ w.heap.size k _ T _ (heap_alloc_new w _)]
  simp [cellsOf,hk]
 ·have e:(ps.map fun p=>p.2.2.2).getD k []=ps[k].2.2.2:=by simp [hk]
  rw [e]
  exact (h ps[k] (List.getElem_mem hk)).1.kept hb
def wordC (bs:List Int):Array Value:=(bs.map (Value.int .u8)).toArray
theorem row_word (w:World)(bs:List Int)(fr:Nat × Nat)(h:∀ k,0≤bs.getD k 0∧bs.getD k 0≤255):Row (w.alloc (.cells (wordC bs) 5 fr)) (some ⟨w.heap.size,0,none⟩) bs.length bs:=by
 refine ⟨rfl,fun k hk=>⟨w.heap.size,0,rfl,by simp,?_⟩,h⟩
 rw [Nat.zero_add,cell_of_row _ w.heap.size k _ 5 _ (heap_alloc_new w _)]
 simp [wordC,hk]
theorem bytes_of_all {bs:List Int}(h:∀ x∈bs,0≤x∧x≤255):∀ k,0≤bs.getD k 0∧bs.getD k 0≤255:=by
 intro k
 rw [List.getD_eq_getElem?_getD]
 by_cases hk:k<bs.length
 ·rw [List.getElem?_eq_getElem hk]; exact h _ (List.getElem_mem hk)
 ·rw [List.getElem?_eq_none (by omega)]; simp
theorem hashL_bd (bs:List Int):0≤hashL bs∧hashL bs≤18446744073709551615 :=
 ⟨(bits_within .xor .u64 _ _).1,(bits_within .xor .u64 _ _).2⟩
def chW:List Int:=[99,104,97,108,108,101,110,103,101]
theorem chW_byte:∀ k,0≤chW.getD k 0∧chW.getD k 0≤255:=bytes_of_all (by decide)
def chalN (r y:Int)(ms:List Int):Int:=hashL (partsL [chW,putI r,putI y,ms]) % 500000003
theorem chal_total (r y:Int)(ms:List Int)(hr:r≤9223372036854775807)(hy:y≤9223372036854775807)(hn:ms.length≤1048576):total [chW,putI r,putI y,ms]≤2097152:=by
 have h1:=putI_len r hr
 have h2:=putI_len y hy
 simp [total,chW]
 omega
theorem implChallenge_any (r y:Int)(a:Option Addr)(n c:Nat)(ms:List Int)(w:World)(h:Row w a n ms)(hn:n≤1048576)(hc:a=none→c=0)(hr:r≤9223372036854775807)(hy:y≤9223372036854775807) :
  Calls Tryz.prog 273 #[.int .i64 r,.int .i64 y,.slice a n c] w fun e w'=>e=.returned (.int .i64 (chalN r y ms))∧Below w.heap.size w w':=by
 have H0:Hid (Row w a n ms):=h
 have HT:Hid (total [chW,putI r,putI y,ms]≤2097152):=chal_total r y ms hr hy (by rw [h.len]; exact hn)
 clear h
 have hcv:=Lib.run_convert_bytes_const (P:=Tryz.prog) w 32 5 #[.int .u8 99,.int .u8 104,.int .u8 97,.int .u8 108,.int .u8 108,.int .u8 101,.int .u8 110,.int .u8 103,.int .u8 101] 9 9 Tryz.underlying32 Tryz.underlying5
 have hrw:Row (w.alloc (.cells #[.int .u8 99,.int .u8 104,.int .u8 97,.int .u8 108,.int .u8 108,.int .u8 101,.int .u8 110,.int .u8 103,.int .u8 101] 5 (9,10))) (some ⟨w.heap.size,0,none⟩) 9 chW:=row_word w chW (9,10) chW_byte
 have hb0:Below w.heap.size w (w.alloc (.cells #[.int .u8 99,.int .u8 104,.int .u8 97,.int .u8 108,.int .u8 108,.int .u8 101,.int .u8 110,.int .u8 103,.int .u8 101] 5 (9,10))):=(Below.refl _ _).alloc (Nat.le_refl _) _
 go_enter Tryz.func273,Tryz.ntmps273
 go_wp2_with fail
 clear hcv
 obtain ⟨w0,hw0⟩:∃ w0,w0=w.alloc (.cells #[.int .u8 99,.int .u8 104,.int .u8 97,.int .u8 108,.int .u8 108,.int .u8 101,.int .u8 110,.int .u8 103,.int .u8 101] 5 (9,10)):=⟨_,rfl⟩
 rw [← hw0] at hrw hb0 ⊢
 clear hw0
 refine (implPutNum_any r _ hr).mono ?_
 rintro e w1 ⟨a1,c1,rfl,ho1,hb1⟩
 obtain ⟨n1,hn1⟩:∃ n1,n1=(putI r).length:=⟨_,rfl⟩
 rw [← hn1] at ho1 ⊢
 clear hn1
 go_wp2_with fail
 refine (implPutNum_any y _ hy).mono ?_
 rintro e w2 ⟨a2,c2,rfl,ho2,hb2⟩
 obtain ⟨n2,hn2⟩:∃ n2,n2=(putI y).length:=⟨_,rfl⟩
 rw [← hn2] at ho2 ⊢
 clear hn2
 have hs1:=hb1.size
 have B2:Below w0.heap.size w0 w2:=hb1.trans (hb2.mono hs1)
 have B2':Below w.heap.size w w2:=hb0.trans (B2.mono hb0.size)
 have HRS:Hid (Rows2 (w2.alloc (.cells #[.slice (some ⟨w.heap.size,0,none⟩) 9 9,.slice a1 n1 c1,.slice a2 n2 c2,.slice a n c] 32)) (some ⟨w2.heap.size,0,none⟩) 4 [chW,putI r,putI y,ms]):=by
  refine rows2_lit w2 [(some ⟨w.heap.size,0,none⟩,9,9,chW),(a1,n1,c1,putI r),(a2,n2,c2,putI y),(a,n,c,ms)] 32 ?_
  intro p hp
  simp only [List.mem_cons,List.not_mem_nil,or_false] at hp
  rcases hp with rfl | rfl | rfl | rfl
  ·exact ⟨hrw.kept B2,fun h=>by cases h⟩
  ·exact ⟨(ho1.kept hb2).toRow,ho1.nil⟩
  ·exact ⟨ho2.toRow,ho2.nil⟩
  ·exact ⟨H0.out.kept B2',hc⟩
 have B3:Below w.heap.size w (w2.alloc (.cells #[.slice (some ⟨w.heap.size,0,none⟩) 9 9,.slice a1 n1 c1,.slice a2 n2 c2,.slice a n c] 32)):=B2'.alloc B2'.size _
 go_wp2_with fail
 refine (implHashParts_any _ 4 4 [chW,putI r,putI y,ms] _ HRS.out (by decide) HT.out).mono ?_
 rintro e w3 ⟨rfl,hb3⟩
 have HV:Hid (hashL (partsL [chW,putI r,putI y,ms]) % 500000003=chalN r y ms):=rfl
 obtain ⟨hh,hhe⟩:∃ hh,hh=hashL (partsL [chW,putI r,putI y,ms]):=⟨_,rfl⟩
 have hhb:=hashL_bd (partsL [chW,putI r,putI y,ms])
 rw [← hhe] at HV hhb ⊢
 obtain ⟨hh0,hh1⟩:=hhb
 clear hhe
 go_wp2
 go_ret
 exact ⟨by rw [← HV.out]; rfl,B3.trans (hb3.mono B3.size)⟩
theorem specChallenge_any (r y:Int)(a:Option Addr)(n c:Nat)(ms:List Int)(w:World)(h:Row w a n ms)(hn:n≤1048576)(hc:a=none→c=0)(hr:r≤9223372036854775807)(hy:y≤9223372036854775807) :
  Calls Tryz.prog 165 #[.int .i64 r,.int .i64 y,.slice a n c] w fun e w'=>e=.returned (.int .i64 (chalN r y ms))∧Below w.heap.size w w':=by
 have H0:Hid (Row w a n ms):=h
 have HT:Hid (total [chW,putI r,putI y,ms]≤2097152):=chal_total r y ms hr hy (by rw [h.len]; exact hn)
 clear h
 have hcv:=Lib.run_convert_bytes_const (P:=Tryz.prog) w 32 5 #[.int .u8 99,.int .u8 104,.int .u8 97,.int .u8 108,.int .u8 108,.int .u8 101,.int .u8 110,.int .u8 103,.int .u8 101] 9 9 Tryz.underlying32 Tryz.underlying5
 have hrw:Row (w.alloc (.cells #[.int .u8 99,.int .u8 104,.int .u8 97,.int .u8 108,.int .u8 108,.int .u8 101,.int .u8 110,.int .u8 103,.int .u8 101] 5 (9,10))) (some ⟨w.heap.size,0,none⟩) 9 chW:=row_word w chW (9,10) chW_byte
 have hb0:Below w.heap.size w (w.alloc (.cells #[.int .u8 99,.int .u8 104,.int .u8 97,.int .u8 108,.int .u8 108,.int .u8 101,.int .u8 110,.int .u8 103,.int .u8 101] 5 (9,10))):=(Below.refl _ _).alloc (Nat.le_refl _) _
 go_enter Tryz.func165,Tryz.ntmps165
 go_wp2_with fail
 clear hcv
 obtain ⟨w0,hw0⟩:∃ w0,w0=w.alloc (.cells #[.int .u8 99,.int .u8 104,.int .u8 97,.int .u8 108,.int .u8 108,.int .u8 101,.int .u8 110,.int .u8 103,.int .u8 101] 5 (9,10)):=⟨_,rfl⟩
 rw [← hw0] at hrw hb0 ⊢
 clear hw0
 refine (specPutNum_any r _ hr).mono ?_
 rintro e w1 ⟨a1,c1,rfl,ho1,hb1⟩
 obtain ⟨n1,hn1⟩:∃ n1,n1=(putI r).length:=⟨_,rfl⟩
 rw [← hn1] at ho1 ⊢
 clear hn1
 go_wp2_with fail
 refine (specPutNum_any y _ hy).mono ?_
 rintro e w2 ⟨a2,c2,rfl,ho2,hb2⟩
 obtain ⟨n2,hn2⟩:∃ n2,n2=(putI y).length:=⟨_,rfl⟩
 rw [← hn2] at ho2 ⊢
 clear hn2
 have hs1:=hb1.size
 have B2:Below w0.heap.size w0 w2:=hb1.trans (hb2.mono hs1)
 have B2':Below w.heap.size w w2:=hb0.trans (B2.mono hb0.size)
 have HRS:Hid (Rows2 (w2.alloc (.cells #[.slice (some ⟨w.heap.size,0,none⟩) 9 9,.slice a1 n1 c1,.slice a2 n2 c2,.slice a n c] 32)) (some ⟨w2.heap.size,0,none⟩) 4 [chW,putI r,putI y,ms]):=by
  refine rows2_lit w2 [(some ⟨w.heap.size,0,none⟩,9,9,chW),(a1,n1,c1,putI r),(a2,n2,c2,putI y),(a,n,c,ms)] 32 ?_
  intro p hp
  simp only [List.mem_cons,List.not_mem_nil,or_false] at hp
  rcases hp with rfl | rfl | rfl | rfl
  ·exact ⟨hrw.kept B2,fun h=>by cases h⟩
  ·exact ⟨(ho1.kept hb2).toRow,ho1.nil⟩
  ·exact ⟨ho2.toRow,ho2.nil⟩
  ·exact ⟨H0.out.kept B2',hc⟩
 have B3:Below w.heap.size w (w2.alloc (.cells #[.slice (some ⟨w.heap.size,0,none⟩) 9 9,.slice a1 n1 c1,.slice a2 n2 c2,.slice a n c] 32)):=B2'.alloc B2'.size _
 go_wp2_with fail
 refine (specHashAll_any _ 4 4 [chW,putI r,putI y,ms] _ HRS.out (by decide) HT.out).mono ?_
 rintro e w3 ⟨rfl,hb3⟩
 have HV:Hid (hashL (partsL [chW,putI r,putI y,ms]) % 500000003=chalN r y ms):=rfl
 obtain ⟨hh,hhe⟩:∃ hh,hh=hashL (partsL [chW,putI r,putI y,ms]):=⟨_,rfl⟩
 have hhb:=hashL_bd (partsL [chW,putI r,putI y,ms])
 rw [← hhe] at HV hhb ⊢
 obtain ⟨hh0,hh1⟩:=hhb
 clear hhe
 go_wp2
 go_ret
 exact ⟨by rw [← HV.out]; rfl,B3.trans (hb3.mono B3.size)⟩
open Go.RowKit
theorem wraps_i64 (n:Int)(h₀:0≤n)(h₁:n<2 ^ 63):IntKind.i64.wrap n=n:=by rw [IntKind.wrap_i64]; omega
theorem or7 (m x:Int)(hm:0≤m)(hm':m<72057594037927936)(hx:0≤x)(hx':x<128):bits .or .i64 (m * 128) x=m * 128+x :=
 bits_join .i64 63 (by decide) wraps_i64 7 (m * 128) x (by omega) (by omega) (by omega) hx hx' (by omega)
theorem and7 (x:Int)(hx:0≤x)(hx':x≤255):bits .and .u8 x 127=x % 128:=bits_mask .u8 8 (by decide) wraps_u8 7 (by decide) x hx (by omega)
def getL:List Int→Int→Int→Int × Int × Int
 | [],_,_=>(0,0,1)
 | x::r,m,p=>if 72057594037927936≤m then (0,0,2) else if x<128 then (m * 128+x % 128,p+1,0) else getL r (m * 128+x % 128) (p+1)
def getN (bs:List Int)(p:Int):Int × Int × Int :=
 if p<0∨(bs.length:Int)<p then (0,0,3) else if (bs.getD p.toNat 0)=128 then (0,0,2) else getL (bs.drop p.toNat) 0 p
theorem drop_cons {bs:List Int}{k:Nat}(h:k<bs.length):bs.drop k=bs.getD k 0::bs.drop (k+1):=by
 rw [List.drop_eq_getElem_cons h]; simp [h]
theorem getL_big {bs:List Int}{k:Nat}(h:k<bs.length){m p:Int}(hm:72057594037927936≤m):getL (bs.drop k) m p=(0,0,2):=by
 rw [drop_cons h,getL,if_pos hm]
theorem getL_last {bs:List Int}{k:Nat}(h:k<bs.length){m p:Int}(hm:¬ 72057594037927936≤m)(hx:bs.getD k 0<128):getL (bs.drop k) m p=(m * 128+bs.getD k 0 % 128,p+1,0):=by
 rw [drop_cons h,getL,if_neg hm,if_pos hx]
theorem getL_next {bs:List Int}{k:Nat}(h:k<bs.length){m p:Int}(hm:¬ 72057594037927936≤m)(hx:¬ bs.getD k 0<128):getL (bs.drop k) m p=getL (bs.drop (k+1)) (m * 128+bs.getD k 0 % 128) (p+1):=by
 rw [drop_cons h,getL,if_neg hm,if_neg hx]
theorem getL_end {bs:List Int}{k:Nat}(h:bs.length≤k){m p:Int}:getL (bs.drop k) m p=(0,0,1):=by
 rw [List.drop_eq_nil_of_le h,getL]
def trip (t:Int × Int × Int):Value:=.tuple #[.int .i64 t.1,.int .i64 t.2.1,.int .i64 t.2.2]
theorem specGetNum_any (a:Option Addr)(n cap:Nat)(bs:List Int)(p:Int)(w:World)(h:Row w a n bs)(hn:n≤1000000000000) :
  Calls Tryz.prog 121 #[.slice a n cap,.int .i64 p] w fun e w'=>e=.returned (trip (getN bs p))∧w'=w:=by
 have H0:Hid (Row w a n bs):=h
 have hby:=h.byte
 have HL:Hid (bs.length=n):=h.len
 clear h
 by_cases hp:p<0
 ·have hf:Hid (getN bs p=(0,0,3)):=by show _=_; rw [getN,if_pos (.inl hp)]
  go_enter Tryz.func121,Tryz.ntmps121
  go_wp2
  go_ret3
  exact ⟨by rw [hf.out]; rfl,rfl⟩
 ·by_cases hpn:(n:Int)<p
  ·have hf:Hid (getN bs p=(0,0,3)):=by show _=_; rw [getN,if_pos (.inr (by rw [HL.out]; exact hpn))]
   go_enter Tryz.func121,Tryz.ntmps121
   go_wp2
   go_ret3
   exact ⟨by rw [hf.out]; rfl,rfl⟩
  ·obtain ⟨s,rfl⟩:=Int.eq_ofNat_of_zero_le (show 0≤p by omega)
   have hG:getN bs (s:Int)=if (bs.getD s 0)=128 then (0,0,2) else getL (bs.drop s) 0 s:=by
    rw [getN,if_neg (by rw [HL.out]; omega),Int.toNat_natCast]
   have HG:Hid (getN bs (s:Int)=if (bs.getD s 0)=128 then (0,0,2) else getL (bs.drop s) 0 s):=hG
   clear hG
   go_enter Tryz.func121,Tryz.ntmps121
   go_wp2
   go_loop [7,8] (fun m i=>∃ (k:Nat) (mm:Int),s≤k∧k≤n∧i=.int .i64 k∧m=.int .i64 mm∧0≤mm∧mm≤9223372036854775807∧(k=s→mm=0)∧(s<k→bs.getD s 0≠128)∧getL (bs.drop s) 0 s=getL (bs.drop k) mm k) (fun _ i=>n+1 - (intOf i).toNat)
   case atStart=>exact ⟨s,0,by omega,by omega,rfl,rfl,by omega,by omega,fun _=>rfl,fun h=>absurd h (Nat.lt_irrefl _),rfl⟩
   case round =>
    obtain ⟨k,mm,hsk,hkn,rfl,rfl,hm0,hm1,hz,hf,hg⟩:=hrel
    have HG2:Hid (getL (bs.drop s) 0 s=getL (bs.drop k) mm k):=hg
    have HZ:Hid (k=s→mm=0):=hz
    have HF:Hid (s<k→bs.getD s 0≠128):=hf
    clear hg hz hf
    by_cases hlt:k<n
    ·have hlb:k<bs.length:=by have:=HL.out; omega
     obtain ⟨b,off,rfl,hb,hc⟩:=H0.out.get k hlt
     obtain ⟨x,hx⟩:∃ x,x=bs.getD k 0:=⟨_,rfl⟩
     have hxb:=hby k
     rw [← hx] at hc hxb
     obtain ⟨hx0,hx1⟩:=hxb
     have HX:Hid (x=bs.getD k 0):=hx
     clear hx
     have hand:bits .and .u8 x 127=x % 128:=and7 x hx0 hx1
     by_cases hc1:k=s∧x=128
     ·obtain ⟨hks,h128⟩:=hc1
      have hfin:Hid (getN bs (s:Int)=(0,0,2)):=by show _=_; rw [HG.out,← hks,if_pos (by rw [← HX.out]; exact h128)]
      have e1:((k:Int) == (s:Int))=true:=by simp [hks]
      have e2:(x == 128)=true:=by simp [h128]
      clear hks h128
      go_wp2
      go_ret3
      exact ⟨by rw [hfin.out]; rfl,rfl⟩
     ·have hgn:Hid (getN bs (s:Int)=getL (bs.drop k) mm k):=by
       show _=_
       rw [HG.out,if_neg ?_,HG2.out]
       by_cases hks:k=s
       ·subst hks
        intro e; exact hc1 ⟨rfl,by rw [HX.out]; exact e⟩
       ·exact HF.out (by omega)
      have hfirst:Hid (bs.getD s 0≠128):=by
       show _≠_
       by_cases hks:k=s
       ·subst hks
        intro e; exact hc1 ⟨rfl,by rw [HX.out]; exact e⟩
       ·exact HF.out (by omega)
      have hcase:(((k:Int) == (s:Int))=true∧(x == 128)=false∧mm≤0)∨((k:Int) == (s:Int))=false:=by
       by_cases hks:k=s
       ·left
        refine ⟨by simp [hks],?_,by have:=HZ.out hks; omega⟩
        simp; intro e; exact hc1 ⟨hks,e⟩
       ·right; simp; omega
      clear hc1
      by_cases hbig:72057594037927936≤mm
      ·have hfin:Hid (getN bs (s:Int)=(0,0,2)):=by show _=_; rw [hgn.out,getL_big hlb hbig]
       have e1:((k:Int) == (s:Int))=false:=by
        rcases hcase with ⟨_,_,h0⟩ | h0
        ·omega
        ·exact h0
       clear hcase
       go_wp2
       go_ret3
       exact ⟨by rw [hfin.out]; rfl,rfl⟩
      ·have hor:bits .or .i64 (mm * 128) (x % 128)=mm * 128+x % 128:=or7 mm (x % 128) hm0 (by omega) (by omega) (by omega)
       by_cases hx128:x<128
       ·have hfin:Hid (getN bs (s:Int)=(mm * 128+x % 128,(k:Int)+1,0)):=by show _=_; rw [hgn.out,getL_last hlb hbig (by rw [← HX.out]; exact hx128),← HX.out]
        rcases hcase with ⟨e1,e2,e3⟩ | e1
        all_goals
         go_wp2
         go_ret3
         exact ⟨by rw [hfin.out]; rfl,rfl⟩
       ·have hnext:Hid (getL (bs.drop s) 0 s=getL (bs.drop (k+1)) (mm * 128+x % 128) ((k:Int)+1)):=by
         show _=_; rw [HG2.out,getL_next hlb hbig (by rw [← HX.out]; exact hx128),← HX.out]
        rcases hcase with ⟨e1,e2,e3⟩ | e1
        all_goals
         go_wp2
         go_round
         case rel=>exact ⟨k+1,mm * 128+x % 128,by omega,by omega,by go_num,rfl,by omega,by omega,fun e=>by omega,fun _=>hfirst.out,by rw [hnext.out]; rfl⟩
         case measure=>simp [intOf]; omega
    ·have hkn':k=n:=by omega
     subst hkn'
     have hfin:Hid (getN bs (s:Int)=(0,0,1)):=by
      show _=_
      rw [HG.out]
      have hl:=HL.out
      rw [if_neg ?_,HG2.out,getL_end (by omega)]
      by_cases hsk':s<k
      ·exact HF.out hsk'
      ·rw [List.getD_eq_getElem?_getD,List.getElem?_eq_none (by omega)]; simp
     go_wp2
     go_ret3
     exact ⟨by rw [hfin.out]; rfl,rfl⟩
theorem implGetNum_any (a:Option Addr)(n cap:Nat)(bs:List Int)(p:Int)(w:World)(h:Row w a n bs)(hn:n≤1000000000000) :
  Calls Tryz.prog 269 #[.slice a n cap,.int .i64 p] w fun e w'=>e=.returned (trip (getN bs p))∧w'=w:=by
 have H0:Hid (Row w a n bs):=h
 have hby:=h.byte
 have HL:Hid (bs.length=n):=h.len
 clear h
 by_cases hp:p<0
 ·have hf:Hid (getN bs p=(0,0,3)):=by show _=_; rw [getN,if_pos (.inl hp)]
  go_enter Tryz.func269,Tryz.ntmps269
  go_wp2
  go_ret3
  exact ⟨by rw [hf.out]; rfl,rfl⟩
 ·by_cases hpn:(n:Int)<p
  ·have hf:Hid (getN bs p=(0,0,3)):=by show _=_; rw [getN,if_pos (.inr (by rw [HL.out]; exact hpn))]
   go_enter Tryz.func269,Tryz.ntmps269
   go_wp2
   go_ret3
   exact ⟨by rw [hf.out]; rfl,rfl⟩
  ·obtain ⟨s,rfl⟩:=Int.eq_ofNat_of_zero_le (show 0≤p by omega)
   have hG:getN bs (s:Int)=if (bs.getD s 0)=128 then (0,0,2) else getL (bs.drop s) 0 s:=by
    rw [getN,if_neg (by rw [HL.out]; omega),Int.toNat_natCast]
   have HG:Hid (getN bs (s:Int)=if (bs.getD s 0)=128 then (0,0,2) else getL (bs.drop s) 0 s):=hG
   clear hG
   by_cases hc1:s<n∧bs.getD s 0=128
   ·obtain ⟨hsn,h128⟩:=hc1
    obtain ⟨b,off,rfl,hb,hc⟩:=H0.out.get s hsn
    rw [h128] at hc
    have hfin:Hid (getN bs (s:Int)=(0,0,2)):=by show _=_; rw [HG.out,if_pos h128]
    clear h128
    go_enter Tryz.func269,Tryz.ntmps269
    go_wp2
    go_ret3
    exact ⟨by rw [hfin.out]; rfl,rfl⟩
   ·have hgn:Hid (getN bs (s:Int)=getL (bs.drop s) 0 s):=by
     show _=_
     rw [HG.out,if_neg ?_]
     intro e
     by_cases hsn:s<n
     ·exact hc1 ⟨hsn,e⟩
     ·rw [List.getD_eq_getElem?_getD,List.getElem?_eq_none (by have:=HL.out; omega)] at e; simp at e
    have hsx:s<n→∃ b off x,a=some ⟨b,off,none⟩∧w.cell? ⟨b,off+s,none⟩=some (.int .u8 x)∧(x == 128)=false:=by
     intro hsn
     obtain ⟨b,off,ha,_,hc⟩:=H0.out.get s hsn
     exact ⟨b,off,_,ha,hc,by simp only [beq_eq_false_iff_ne]; exact fun e=>hc1 ⟨hsn,e⟩⟩
    have HSX:Hid (s<n→∃ b off x,a=some ⟨b,off,none⟩∧w.cell? ⟨b,off+s,none⟩=some (.int .u8 x)∧(x == 128)=false):=hsx
    clear hsx hc1
    by_cases hsn:s<n
    ·obtain ⟨b0,off0,x0,rfl,hx0c,hx0n⟩:=HSX.out hsn
     go_enter Tryz.func269,Tryz.ntmps269
     go_wp2
     go_loop [8,9] (fun m i=>∃ (k:Nat) (mm:Int),k≤n∧i=.int .i64 k∧m=.int .i64 mm∧0≤mm∧mm≤9223372036854775807∧getL (bs.drop s) 0 s=getL (bs.drop k) mm k) (fun _ i=>n+1 - (intOf i).toNat)
     case atStart=>exact ⟨s,0,by omega,rfl,rfl,by omega,by omega,rfl⟩
     case round =>
      obtain ⟨k,mm,hkn,rfl,rfl,hm0,hm1,hg⟩:=hrel
      have HG2:Hid (getL (bs.drop s) 0 s=getL (bs.drop k) mm k):=hg
      clear hg
      by_cases hlt:k<n
      ·have hlb:k<bs.length:=by have:=HL.out; omega
       obtain ⟨b,off,ha,hb,hc⟩:=H0.out.get k hlt
       simp only [Option.some.injEq,Addr.mk.injEq,and_true] at ha
       obtain ⟨rfl,rfl⟩:=ha
       obtain ⟨x,hx⟩:∃ x,x=bs.getD k 0:=⟨_,rfl⟩
       have hxb:=hby k
       rw [← hx] at hc hxb
       obtain ⟨hx0,hx1⟩:=hxb
       have HX:Hid (x=bs.getD k 0):=hx
       clear hx
       have hand:bits .and .u8 x 127=x % 128:=and7 x hx0 hx1
       by_cases hbig:72057594037927936≤mm
       ·have hfin:Hid (getN bs (s:Int)=(0,0,2)):=by show _=_; rw [hgn.out,HG2.out,getL_big hlb hbig]
        go_wp2
        go_ret3
        exact ⟨by rw [hfin.out]; rfl,rfl⟩
       ·have hor:bits .or .i64 (mm * 128) (x % 128)=mm * 128+x % 128:=or7 mm (x % 128) hm0 (by omega) (by omega) (by omega)
        by_cases hx128:x<128
        ·have hfin:Hid (getN bs (s:Int)=(mm * 128+x % 128,(k:Int)+1,0)):=by show _=_; rw [hgn.out,HG2.out,getL_last hlb hbig (by rw [← HX.out]; exact hx128),← HX.out]
         go_wp2
         go_ret3
         exact ⟨by rw [hfin.out]; rfl,rfl⟩
        ·have hnext:Hid (getL (bs.drop s) 0 s=getL (bs.drop (k+1)) (mm * 128+x % 128) ((k:Int)+1)):=by
          show _=_; rw [HG2.out,getL_next hlb hbig (by rw [← HX.out]; exact hx128),← HX.out]
         go_wp2
         go_round
         case rel=>exact ⟨k+1,mm * 128+x % 128,by omega,by go_num,rfl,by omega,by omega,by rw [hnext.out]; rfl⟩
         case measure=>simp [intOf]; omega
      ·have hfin:Hid (getN bs (s:Int)=(0,0,1)):=by
        show _=_
        rw [hgn.out,HG2.out,getL_end (by have:=HL.out; omega)]
       go_wp2
       go_ret3
       exact ⟨by rw [hfin.out]; rfl,rfl⟩
    ·have hfin:Hid (getN bs (s:Int)=(0,0,1)):=by
      show _=_
      rw [hgn.out,getL_end (by have:=HL.out; omega)]
     go_enter Tryz.func269,Tryz.ntmps269
     go_wp2
     refine wp_loop_rounds 1 ?_
     rw [rounds_succ]
     go_wp2
     go_ret3
     exact ⟨by rw [hfin.out]; rfl,rfl⟩
end Go.Proofs.YtmdfbnlgfhjnoaaGreatDoor
