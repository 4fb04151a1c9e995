/- Words and laws for the statement, part 12. -/
import Derived.Deep.RegionLaw
import Derived.Deep.DrawnRows
import Derived.Test.YtcibjcgipfpniaaGreatDoorG01
import Derived.Test.YtcibjcgipfpniaaGreatDoorG06
import Derived.Test.YtcibjcgipfpniaaGreatDoorG07
import Derived.Test.YtcibjcgipfpniaaGreatDoorG10
import Derived.Test.YtcibjcgipfpniaaGreatDoorG11
namespace Go.Proofs.YtcibjcgipfpniaaGreatDoor
open Go.RowKit BigFrame
set_option linter.unusedVariables false
set_option linter.unusedSimpArgs false
attribute [local go_sem ↓] Go.wp_at_zero Go.wp_at_succ

/-- May it be a text? -/
def textOk (l:List Nat):Bool:=decide (l.length≤64) && vd l
theorem rune1_any (w:World) (l:List Nat) (ho:∀ x∈l,x<256) (hl:0<l.length) :
  Calls Tryz.prog 103 #[.string (str l)] w (RunePost w (rn l)):=by
 have:=getD_oct ho 0
 rcases (by omega:l.getD 0 0<128∨(128≤l.getD 0 0∧(l.getD 0 0<192∨248≤l.getD 0 0))∨(192≤l.getD 0 0∧l.getD 0 0<224)∨(224≤l.getD 0 0∧l.getD 0 0<240)∨(240≤l.getD 0 0∧l.getD 0 0<248)) with h | ⟨h,h'⟩ | ⟨h,h'⟩ | ⟨h,h'⟩ | ⟨h,h'⟩
 ·exact rune1_asc w l ho hl h
 ·exact rune1_none w l ho hl h h'
 ·exact rune1_2 w l ho hl h h'
 ·exact rune1_3 w l ho hl h h'
 ·exact rune1_4 w l ho hl h h'
theorem str_list (l:List Nat):(str l).data.toList=l.map UInt8.ofNat:=by simp [str]
theorem str_extract (l:List Nat) (k:Nat):(str l).extract k l.length=str (l.drop k):=by
 have h:=Lib.ext_list (str l) k
 rw [str_len,str_list,←List.map_drop] at h
 have e:∀ a b:ByteArray,a.data.toList=b.data.toList→a=b:=fun a b h=>by
  cases a;cases b
  exact congrArg _ (Array.toList_inj.1 h)
 exact e _ _ (by rw [h,str_list])
set_option maxRecDepth 1000000 in
set_option maxHeartbeats 4000000 in
theorem isText'_any (w:World) (l:List Nat) (ho:∀ x∈l,x<256) :
  Calls Tryz.prog 63 #[.string (str l)] w fun e w'=>e = .returned (.bool (textOk l))∧Below w.heap.size w w':=by
 obtain ⟨r,hr⟩:∃ r,textOk l=r:=⟨_,rfl⟩
 rw [hr]
 obtain ⟨T,hT⟩:∃ T,str l=T:=⟨_,rfl⟩
 have hts:T.size=l.length:=by rw [←hT,str_len]
 rw [hT]
 have HTT:=Lib.hid hT
 clear hT
 by_cases h64:64<l.length
 ·have d1:decide ((64:Int)<(l.length:Int))=true:=decide_eq_true (by omega)
  have hr':r=false:=by rw [←hr];unfold textOk;rw [decide_eq_false (by omega)];rfl
  have HR:=Lib.hid hr'
  clear hr hr'
  go_enter Tryz.func63,Tryz.ntmps63
  go_wp2_with fail
  go_ret
  rw [HR.out]
  exact ⟨rfl,Below.refl _ _⟩
 have d1:decide ((64:Int)<(l.length:Int))=false:=decide_eq_false (by omega)
 have hr':vd l=r:=by rw [←hr];unfold textOk;rw [decide_eq_true (by omega)];rfl
 have HV:=Lib.hid hr'
 have HO:Hid (∀ x∈l,x<256):=Lib.hid ho
 have hle:l.length≤64:=by omega
 obtain ⟨n,hn⟩:∃ n,l.length=n:=⟨_,rfl⟩
 have HN:=Lib.hid hn
 rw [hn] at hts d1 hle
 clear hr hr' ho hn h64
 go_enter Tryz.func63,Tryz.ntmps63
 go_wp2_with fail
 go_loopg [0] (65) (fun gk s wx=>Below w.heap.size w wx∧∃ (t:List Nat) (U:ByteArray) (m:Nat),s = .string U∧Hid (str t=U)∧Hid (∀ x∈t,x<256)∧Hid (vd t=r)∧Hid (t.length=m)∧m<gk)
 case atStart=>exact ⟨Below.refl _ _,l,T,n,rfl,HTT,HO,HV,HN,by omega⟩
 case round =>
  obtain ⟨hbw,t,U,m,rfl,HU,HOt,HVt,HM,hg⟩:=hrel
  have HB:=Lib.hid hbw
  clear hbw HTT HO HV HN hts
  have hus:U.size=m:=by rw [←HU.out,str_len,HM.out]
  by_cases h0:0<m
  ·have d0:decide ((0:Int)<(m:Int))=true:=decide_eq_true (by omega)
   have hc:=rune1_any wr t HOt.out (by rw [HM.out];exact h0)
   rw [HU.out] at hc
   have HC:=Lib.hid hc
   clear hc
   obtain ⟨k,hk⟩:∃ k,rn t=k:=⟨_,rfl⟩
   rw [hk] at HC
   by_cases hk0:k=0
   ·have hr':r=false:=by rw [←HVt.out];exact rn_no HOt.out (by rw [HM.out];exact h0) (by rw [hk,hk0])
    have HR:=Lib.hid hr'
    have z0:((k:Int) == 0)=true:=by simp [hk0]
    clear hr' hk
    go_wp2_with fail
    refine HC.out.mono ?_
    rintro e W1 ⟨rfl,hb1⟩
    have HB1:=Lib.hid (HB.out.trans (hb1.mono HB.out.size))
    clear hb1 HC
    go_wp2_with fail
    go_ret
    rw [HR.out]
    exact ⟨rfl,HB1.out⟩
   ·have hy:=rn_yes HOt.out (by rw [HM.out];exact h0) (by rw [hk];exact hk0)
    rw [hk,HM.out] at hy
    have hkm:=hy.1
    have HY:=Lib.hid hy.2
    have z0:((k:Int) == 0)=false:=by rw [beq_eq_false_iff_ne];omega
    obtain ⟨g',rfl⟩:∃ g',gk=g' + 1:=⟨gk - 1,by omega⟩
    clear hy hk
    go_wp2_with fail
    refine HC.out.mono ?_
    rintro e W1 ⟨rfl,hb1⟩
    have HB1:=Lib.hid (HB.out.trans (hb1.mono HB.out.size))
    clear hb1 HC
    have hkz:(k:Int)≤(m:Int):=by omega
    go_wp2_with fail
    go_roundg g'
    case measure=>omega
    case rel =>
     exact ⟨HB1.out,t.drop k,_,m - k,rfl,Lib.hid (by rw [←str_extract,HM.out,HU.out]),Lib.hid (fun x hx=>HOt.out x (List.mem_of_mem_drop hx)),Lib.hid (by rw [HY.out];exact HVt.out),Lib.hid (by rw [List.length_drop,HM.out]),by omega⟩
  ·obtain rfl:m=0:=by omega
   have d0:decide ((0:Int)<(0:Int))=false:=rfl
   have ht:t=[]:=List.eq_nil_of_length_eq_zero HM.out
   have hr':r=true:=by rw [←HVt.out,ht,vd_nil]
   have HR:=Lib.hid hr'
   clear hr' ht
   go_wp2_with fail
   go_ret
   rw [HR.out]
   exact ⟨rfl,HB.out⟩
theorem conv_bytes (b:List Nat) (ho:Oct8 b) (hl:b.length≤9223372036854775807):∃ (cap:World→Nat) (o:World→Obj),(∀ W,(convert 9 24 (.string (str b))).run Tryz.prog W = .ok (.slice (some ⟨W.heap.size,0,none⟩) b.length (cap W)) (W.drew.alloc (o W))) ∧
  ∀ W,Rd .u8 (W.drew.alloc (o W)) (W.heap.size+1) (some ⟨W.heap.size,0,none⟩) (cap W) b:=by
 refine ⟨_,_,fun W=>by rw [←str_len b];exact run_bytes_of_string (P:=Tryz.prog) W 9 24 5 (str b) Tryz.underlying9 Tryz.underlying24 Tryz.underlying5,fun W=>?_⟩
 have hg:=grownCap_ge W (str b).size 0 5
 have hm:=grownCap_le_maxLen W (str b).size 0 5 (by rw [str_len];simp [maxLen];omega)
 rw [str_len] at hg hm ⊢
 refine ⟨hg,by unfold maxLen at hm;exact hm,fun h0=>⟨W.heap.size,0,rfl,by omega,fun j hj=>?_⟩⟩
 rw [Nat.zero_add,cell_of_row (W.drew.alloc _) W.heap.size j _ 5 _ (heap_alloc_new W.drew _)]
 rw [bytesRow_at (str b) _ j (by simpa [str] using hj)]
 have hx:=ho b[j] (List.getElem_mem hj)
 simp [str,List.getD,hj,Nat.mod_eq_of_lt hx]
theorem Off.of_new {k:IntKind} {xs:List Nat} {w:World} {B:Nat} {A:Option Addr} {c:Nat} {l:List Nat} (h:Rd k w B A c l) (hB:B≤w.heap.size) (hx:∀ g,blk_of A=some g→g ∉ xs):Off xs (fun w=>Rd k w w.heap.size A c l) w:=fun w' h2 h3=>by
 refine ⟨h.1,h.2.1,fun hn=>?_⟩
 obtain ⟨g,off,rfl,hlt,hc⟩:=h.2.2 hn
 refine ⟨g,off,rfl,by omega,fun j hj=>?_⟩
 simp only [World.cell?]
 rw [h3 g (hx g rfl) (by omega)]
 exact hc j hj
set_option maxRecDepth 100000 in
set_option maxHeartbeats 2000000 in
theorem text_any (w:World) (xs:List Nat) (l:List Nat) (ho:∀ x∈l,x<256) (hl:l.length≤9223372036854775807) (hxs:∀ x∈xs,x<w.heap.size) :
  Calls Tryz.prog 66 #[.string (str l)] w (MadeT w xs (.mk 12 l [])):=by
 obtain ⟨V,hV⟩:∃ V,V=w.alloc (.cells #[.int .u8 0,.slice none 0 0,.slice none 0 0] 32):=⟨_,rfl⟩
 have hz:Holds V w.heap.size 32 #[.int .u8 0,.slice none 0 0,.slice none 0 0]:=by rw [hV];exact Holds.fresh _ _ _
 have HB0:Hid (Below w.heap.size w V):=Lib.hid (by rw [hV];exact (Below.refl _ _).alloc (Nat.le_refl _) _)
 have hVs:w.heap.size<V.heap.size:=hz.lt
 obtain ⟨cap,o,hconv,hrd⟩:=conv_bytes l ho hl
 have hrun:=hconv V
 have HR:=Lib.hid (hrd V)
 have hz2:Holds (V.drew.alloc (o V)) w.heap.size 32 #[.int .u8 0,.slice none 0 0,.slice none 0 0]:=Holds.alloc (w:=V.drew) hz (o V)
 have HQ2:Hid (Below w.heap.size w (V.drew.alloc (o V))):=Lib.hid (HB0.out.drew.alloc HB0.out.size _)
 have HS2:Hid (V.heap.size+1=(V.drew.alloc (o V)).heap.size):=Lib.hid (by simp)
 generalize hW2:V.drew.alloc (o V)=W2 at *
 obtain ⟨G,hG⟩:∃ G,V.heap.size=G:=⟨_,rfl⟩
 obtain ⟨C,hC⟩:∃ C,cap V=C:=⟨_,rfl⟩
 rw [hG] at hrun HR HS2 hVs
 rw [hC] at hrun HR
 rw [hV] at hrun
 have z0:=hz2.cell 0
 have z1:=hz2.cell 1
 have z2:=hz2.cell 2
 have y0:=hz2.open_ 0
 have y1:=hz2.open_ 1
 have y2:=hz2.open_ 2
 have HV:=Lib.hid hV
 have HO:=Lib.hid ho
 clear hconv hrd hV ho hW2 hz hG hC HV
 go_enter Tryz.func66,Tryz.ntmps66
 go_wp2_with fail
 refine ret_one rfl rfl (((hz2.stored 0 _).stored 1 _).stored 2 _) rfl ?_
 refine ⟨.mk 12 (some ⟨G,0,none⟩) C l none 0 [],rfl,rfl,made_out (off_body (Off.of_new HR.out (by rw [HS2.out];exact Nat.le_refl _) fun g hg hx=>?_) (by omega) HO.out) _ _ _,below_out HQ2.out _ _ _⟩
 have hg':G=g:=by simpa [blk_of] using hg
 rcases List.mem_cons.1 hx with h2 | h2
 ·omega
 ·have:=hxs g h2;omega
end Go.Proofs.YtcibjcgipfpniaaGreatDoor
namespace Go.Proofs.YtcibjcgipfpniaaGreatDoor
open Go.RowKit BigFrame
set_option linter.unusedVariables false
set_option linter.unusedSimpArgs false
attribute [local go_sem ↓] Go.wp_at_zero Go.wp_at_succ

set_option maxRecDepth 100000 in
set_option maxHeartbeats 2000000 in
theorem text'_any (w:World) (xs:List Nat) (l:List Nat) (ho:∀ x∈l,x<256) (hl:l.length≤100000) (hxs:∀ x∈xs,x<w.heap.size) :
  Calls Tryz.prog 89 #[.string (str l)] w (MadeT w xs (.mk 12 l [])):=by
 obtain ⟨V,hV⟩:∃ V,V=w.alloc (.cells #[.int .u8 0,.slice none 0 0,.slice none 0 0] 32):=⟨_,rfl⟩
 have hz:Holds V w.heap.size 32 #[.int .u8 0,.slice none 0 0,.slice none 0 0]:=by rw [hV];exact Holds.fresh _ _ _
 have HB0:Hid (Below w.heap.size w V):=Lib.hid (by rw [hV];exact (Below.refl _ _).alloc (Nat.le_refl _) _)
 have hVs:w.heap.size<V.heap.size:=hz.lt
 obtain ⟨cap,o,hconv,hrd⟩:=conv_bytes l ho (by omega)
 have hrun:=hconv V
 have HR:=Lib.hid (hrd V)
 have hz2:Holds (V.drew.alloc (o V)) w.heap.size 32 #[.int .u8 0,.slice none 0 0,.slice none 0 0]:=Holds.alloc (w:=V.drew) hz (o V)
 have HQ2:Hid (Below w.heap.size w (V.drew.alloc (o V))):=Lib.hid (HB0.out.drew.alloc HB0.out.size _)
 have HS2:Hid (V.heap.size+1=(V.drew.alloc (o V)).heap.size):=Lib.hid (by simp)
 generalize hW2:V.drew.alloc (o V)=W2 at *
 obtain ⟨G,hG⟩:∃ G,V.heap.size=G:=⟨_,rfl⟩
 obtain ⟨C,hC⟩:∃ C,cap V=C:=⟨_,rfl⟩
 rw [hG] at hrun HR HS2 hVs
 rw [hC] at hrun HR
 rw [hV] at hrun
 have hs2:w.heap.size<W2.heap.size:=by have:=HS2.out;omega
 obtain ⟨n,hn⟩:∃ n,l.length=n:=⟨_,rfl⟩
 rw [hn] at hrun hl
 have HC:=Lib.hid (prim'_own W2 n C 12 (G+1) (some ⟨G,0,none⟩) l HR.out hn (by rw [HS2.out];exact Nat.le_refl _) (by omega) (by omega) ho)
 clear hconv hrd hV ho hW2 hz hG hC HB0 hn
 go_enter Tryz.func89,Tryz.ntmps89
 go_wp2_with fail
 refine HC.out.mono ?_
 rintro e w2 ⟨v2,rfl,hp2,hb2⟩
 have HQ3:Hid (Below w.heap.size w w2):=Lib.hid (HQ2.out.trans (hb2.mono HQ2.out.size))
 have hz3:=hz2.under hb2 hs2
 obtain ⟨lt,hlt,hltt,hof⟩:=off_prim (xs:=w.heap.size :: xs) hp2 (fun y hy=>by rcases List.mem_cons.1 hy with rfl | hy;exact hs2;have:=hxs y hy;omega)
 have HLT:=Lib.hid hlt
 have HLTT:=Lib.hid hltt
 have HOF:=Lib.hid hof
 obtain ⟨A2,c2,rfl,_⟩:=hp2
 have z0:=hz3.cell 0
 have z1:=hz3.cell 1
 have z2:=hz3.cell 2
 have y0:=hz3.open_ 0
 have y1:=hz3.open_ 1
 have y2:=hz3.open_ 2
 clear hb2 HC hlt hltt hof hz2
 go_wp2_with fail
 refine ret_one rfl rfl (((hz3.stored 0 _).stored 1 _).stored 2 _) rfl ?_
 exact ⟨lt,congrArg Ending.returned HLT.out,HLTT.out,made_out HOF.out _ _ _,below_out HQ3.out _ _ _⟩

/-- A text, or none. -/
def GetTx (w:World):Option (List Nat)→Ending→World→Prop
 | none,e,w'=>e = .returned (.tuple #[.string (str []),.bool false])∧Below w.heap.size w w'
 | some b,e,w'=>e = .returned (.tuple #[.string (str b),.bool true])∧Below w.heap.size w w'
theorem GetTx.one {w:World} {o:Option (List Nat)} {e:Ending} {w':World} (h:GetTx w o e w'):e = .returned (.tuple #[.string (str (o.getD [])),.bool o.isSome])∧Below w.heap.size w w':=by
 rcases o with _ | b <;> exact h
/-- The text of a thing of this tag, of so many things, of these bytes. -/
def txOf (x kn:Nat) (b:List Nat):Option (List Nat):=if heldOk x kn 12=true∧textOk b=true then some b else none
set_option maxRecDepth 100000 in
set_option maxHeartbeats 2000000 in
theorem getText_any (w:World) (x n c kn kc B:Nat) (A K:Option Addr) (b:List Nat) (hr:Rd .u8 w B A c b) (hn:b.length=n) (hB:B≤w.heap.size) (ho:∀ y∈b,y<256) (hT:Lib.Utf8Tabs 0 1 w) :
  Calls Tryz.prog 65 #[.agg #[.int .u8 (x:Int),.slice A n c,.slice K kn kc]] w (GetTx w (txOf x kn b)):=by
 have hH:=Holds.fresh w 32 #[.int .u8 (x:Int),.slice A n c,.slice K kn kc]
 have HB0:Hid (Below w.heap.size w (w.alloc (.cells #[.int .u8 (x:Int),.slice A n c,.slice K kn kc] 32))):=Lib.hid ((Below.refl _ _).alloc (Nat.le_refl _) _)
 have c0:=hH.cell 0
 have c1:=hH.cell 1
 have c2:=hH.cell 2
 have HK:=Lib.hid (held_any (w.alloc (.cells #[.int .u8 (x:Int),.slice A n c,.slice K kn kc] 32)) x n c kn kc 12 A K)
 have HR:=Lib.hid hr
 have HN:=Lib.hid hn
 have HT:=Lib.hid hT
 have HO:=Lib.hid ho
 clear hr hn hT ho
 obtain ⟨o,HOO⟩:∃ o,Hid (o=txOf x kn b):=⟨_,rfl⟩
 rw [←HOO.out]
 rcases hok:heldOk x kn 12 with _ | _
 case false =>
  have HE:Hid (o=none):=Lib.hid (by rw [HOO.out];unfold txOf;rw [hok];rfl)
  rw [hok] at HK
  go_enter Tryz.func65,Tryz.ntmps65
  go_wp2_with fail
  refine HK.out.mono ?_
  rintro e w2 ⟨rfl,hb2⟩
  have HQ:=Lib.hid (HB0.out.trans (hb2.mono HB0.out.size))
  clear hb2 HK
  go_wp2_with fail
  go_ret2
  rw [HE.out]
  exact ⟨rfl,HQ.out⟩
 by_cases h64:64<n
 case pos =>
  have HE:Hid (o=none):=Lib.hid (by rw [HOO.out];unfold txOf textOk;rw [if_neg (fun h=>by have:=h.2;simp [HN.out] at this;omega)])
  have d1:decide ((64:Int)<(n:Int))=true:=decide_eq_true (by omega)
  rw [hok] at HK
  go_enter Tryz.func65,Tryz.ntmps65
  go_wp2_with fail
  refine HK.out.mono ?_
  rintro e w2 ⟨rfl,hb2⟩
  have HQ:=Lib.hid (HB0.out.trans (hb2.mono HB0.out.size))
  clear hb2 HK
  go_wp2_with fail
  go_ret2
  rw [HE.out]
  exact ⟨rfl,HQ.out⟩
 have d1:decide ((64:Int)<(n:Int))=false:=decide_eq_false (by omega)
 rcases hvd:vd b with _ | _
 case false =>
  have HE:Hid (o=none):=Lib.hid (by rw [HOO.out];unfold txOf textOk;rw [if_neg (fun h=>by have:=h.2;simp [hvd] at this)])
  have HV:=Lib.hid hvd
  rw [hok] at HK
  clear hvd
  go_enter Tryz.func65,Tryz.ntmps65
  go_wp2_with fail
  refine HK.out.mono ?_
  rintro e w2 ⟨rfl,hb2⟩
  have HQ:=Lib.hid (HB0.out.trans (hb2.mono HB0.out.size))
  have hval:=valid_any w2 B A c n b (HR.out.under (HQ.out.mono hB)) HN.out (Nat.le_trans hB HQ.out.size) HO.out (Utf8Tabs_below HT.out HQ.out)
  rw [HV.out] at hval
  have HVAL:=Lib.hid hval
  clear hb2 HK hval
  go_wp2_with fail
  refine HVAL.out.mono ?_
  rintro e w3 ⟨rfl,hb3⟩
  have HQ3:=Lib.hid (HQ.out.trans (hb3.mono HQ.out.size))
  clear hb3
  go_wp2_with fail
  go_ret2
  rw [HE.out]
  exact ⟨rfl,HQ3.out⟩
 have HE:Hid (o=some b):=Lib.hid (by rw [HOO.out];unfold txOf textOk;rw [if_pos ⟨hok,by simp [hvd,HN.out];omega⟩])
 have HV:=Lib.hid hvd
 rw [hok] at HK
 clear hvd
 go_enter Tryz.func65,Tryz.ntmps65
 go_wp2_with fail
 refine HK.out.mono ?_
 rintro e w2 ⟨rfl,hb2⟩
 have HQ:=Lib.hid (HB0.out.trans (hb2.mono HB0.out.size))
 have hval:=valid_any w2 B A c n b (HR.out.under (HQ.out.mono hB)) HN.out (Nat.le_trans hB HQ.out.size) HO.out (Utf8Tabs_below HT.out HQ.out)
 rw [HV.out] at hval
 have HVAL:=Lib.hid hval
 clear hb2 HK hval
 go_wp2_with fail
 refine HVAL.out.mono ?_
 rintro e w3 ⟨rfl,hb3⟩
 have HQ3:=Lib.hid (HQ.out.trans (hb3.mono HQ.out.size))
 have hcv:=conv_str (w:=w3) (HR.out.under (HQ3.out.mono hB)) HN.out HO.out
 clear hb3
 go_wp2_with fail
 go_ret2
 rw [HE.out]
 exact ⟨rfl,HQ3.out⟩

/-- A thing's digits. -/
def bitsOf (x kn:Nat) (b:List Nat):Option (List Nat):=if heldOk x kn 3=true∧0<b.length∧b.getD 0 0=0 then some (b.drop 1) else none
set_option maxRecDepth 100000 in
set_option maxHeartbeats 2000000 in
theorem getBits_any (w:World) (x n c kn kc B:Nat) (A K:Option Addr) (b:List Nat) (hr:Rd .u8 w B A c b) (hn:b.length=n) (hB:B≤w.heap.size) (h12:n≤12000) :
  Calls Tryz.prog 47 #[.agg #[.int .u8 (x:Int),.slice A n c,.slice K kn kc]] w (GetB w (bitsOf x kn b)):=by
 have hH:=Holds.fresh w 32 #[.int .u8 (x:Int),.slice A n c,.slice K kn kc]
 have HB0:Hid (Below w.heap.size w (w.alloc (.cells #[.int .u8 (x:Int),.slice A n c,.slice K kn kc] 32))):=Lib.hid ((Below.refl _ _).alloc (Nat.le_refl _) _)
 have c0:=hH.cell 0
 have c1:=hH.cell 1
 have c2:=hH.cell 2
 have HK:=Lib.hid (held_any (w.alloc (.cells #[.int .u8 (x:Int),.slice A n c,.slice K kn kc] 32)) x n c kn kc 3 A K)
 have HR:=Lib.hid hr
 have HN:=Lib.hid hn
 clear hr hn
 obtain ⟨o,HOO⟩:∃ o,Hid (o=bitsOf x kn b):=⟨_,rfl⟩
 rw [←HOO.out]
 rcases hok:heldOk x kn 3 with _ | _
 case false =>
  have HE:Hid (o=none):=Lib.hid (by rw [HOO.out];unfold bitsOf;rw [hok];rfl)
  rw [hok] at HK
  go_enter Tryz.func47,Tryz.ntmps47
  go_wp2_with fail
  refine HK.out.mono ?_
  rintro e w2 ⟨rfl,hb2⟩
  have HQ:=Lib.hid (HB0.out.trans (hb2.mono HB0.out.size))
  clear hb2 HK
  go_wp2_with fail
  go_ret2
  rw [HE.out]
  exact ⟨rfl,HQ.out⟩
 rw [hok] at HK
 by_cases h0:n=0
 case pos =>
  subst h0
  have HE:Hid (o=none):=Lib.hid (by rw [HOO.out];unfold bitsOf;rw [if_neg (fun h=>by have:=h.2.1;have:=HN.out;omega)])
  go_enter Tryz.func47,Tryz.ntmps47
  go_wp2_with fail
  refine HK.out.mono ?_
  rintro e w2 ⟨rfl,hb2⟩
  have HQ:=Lib.hid (HB0.out.trans (hb2.mono HB0.out.size))
  clear hb2 HK
  go_wp2_with fail
  go_ret2
  rw [HE.out]
  exact ⟨rfl,HQ.out⟩
 have z0:((n:Int) == 0)=false:=by rw [beq_eq_false_iff_ne];omega
 have hnz:(0:Int)<(n:Int):=by omega
 obtain ⟨g,off,hA,hlt,hcell⟩:=HR.out.2.2 (by rw [HN.out];omega)
 have hc0:=hcell 0 (by rw [HN.out];omega)
 rw [Nat.add_zero] at hc0
 obtain ⟨y,hy⟩:∃ y,b.getD 0 0=y:=⟨_,rfl⟩
 rw [hy] at hc0
 have HY:=Lib.hid hy
 have HC0:=Lib.hid hc0
 clear hcell hy hc0
 subst hA
 by_cases hy0:y=0
 case neg =>
  have HE:Hid (o=none):=Lib.hid (by rw [HOO.out];unfold bitsOf;rw [if_neg (fun h=>by have:=h.2.2;rw [HY.out] at this;omega)])
  have d1:((y:Int) != 0)=true:=by simp;omega
  go_enter Tryz.func47,Tryz.ntmps47
  go_wp2_with fail
  refine HK.out.mono ?_
  rintro e w2 ⟨rfl,hb2⟩
  have HQ:=Lib.hid (HB0.out.trans (hb2.mono HB0.out.size))
  have hc2:=(HQ.out.cell (p:=⟨g,off,none⟩) (by show g<_;omega)).trans HC0.out
  clear hb2 HK
  go_wp2_with fail
  go_ret2
  rw [HE.out]
  exact ⟨rfl,HQ.out⟩
 have HE:Hid (o=some (b.drop 1)):=Lib.hid (by rw [HOO.out];unfold bitsOf;rw [if_pos ⟨hok,by rw [HN.out];omega,by rw [HY.out];exact hy0⟩])
 have d1:((y:Int) != 0)=false:=by simp;omega
 have hdr:=fun W=>run_drop W (some ⟨g,off,none⟩) n c 1 (by omega) (by have:=HR.out.1;rw [HN.out] at this;omega)
 have HDR:=Lib.hid (HR.out.drop 1 (by rw [HN.out];omega))
 generalize hD:dropA (some ⟨g,off,none⟩) 1 c=D at *
 obtain ⟨m,hm⟩:∃ m,n - 1=m:=⟨_,rfl⟩
 obtain ⟨d,hd⟩:∃ d,c - 1=d:=⟨_,rfl⟩
 have hdr1:∀ W,(Instr.sliceAt 24 (.slice (some ⟨g,off,none⟩) n c) (some (.int .i64 1)) none none).run Tryz.prog W = .ok (.slice D m d) W:=fun W=>by rw [←hm,←hd];exact hdr W
 rw [hd] at HDR
 have HM1:Hid ((b.drop 1).length=m):=Lib.hid (by rw [List.length_drop,HN.out,hm])
 have hm12:m≤12000:=by omega
 clear hdr hD hm hd
 go_enter Tryz.func47,Tryz.ntmps47
 go_wp2_with fail
 refine HK.out.mono ?_
 rintro e w2 ⟨rfl,hb2⟩
 have HQ:=Lib.hid (HB0.out.trans (hb2.mono HB0.out.size))
 have hc2:=(HQ.out.cell (p:=⟨g,off,none⟩) (by show g<_;omega)).trans HC0.out
 have HCL:=Lib.hid (clone_any w2 B D d m (b.drop 1) (HDR.out.under (HQ.out.mono hB)) HM1.out (Nat.le_trans hB HQ.out.size) hm12)
 clear hb2 HK
 go_wp2_with fail
 refine HCL.out.mono ?_
 rintro e w3 ⟨A3,c3,rfl,hm3,hb3⟩
 have HQ3:=Lib.hid (HQ.out.trans (hb3.mono HQ.out.size))
 have HM3:=Lib.hid (hm3.less HQ.out.size)
 clear hb3 hm3
 go_wp2_with fail
 go_ret2
 rw [HE.out]
 exact ⟨A3,c3,by rw [HM1.out];rfl,HM3.out,HQ3.out⟩
end Go.Proofs.YtcibjcgipfpniaaGreatDoor
namespace Go.Proofs.YtcibjcgipfpniaaGreatDoor
open Go.RowKit
set_option linter.unusedVariables false

/-- A part of a name: its kind, its text. -/
structure Att where
 k:Int
 s:ByteArray
instance:Inhabited Att:=⟨⟨0,⟨#[]⟩⟩⟩
theorem Att.ext_ {a b:Att} (h1:a.k=b.k) (h2:a.s=b.s):a=b:=by cases a;cases b;simp at h1 h2;simp [h1,h2]

/-- The slice '.slice A l.length c' reads as the parts l. -/
def RdA (w:World) (B:Nat) (A:Option Addr) (c:Nat) (l:List Att):Prop :=
 l.length≤c∧c≤9223372036854775807∧(0<l.length→∃ b off,A=some ⟨b,off,none⟩∧b<B∧∀ j,j<l.length →
  w.cell? ⟨b,off+j*2,none⟩=some (.int .i64 (l.getD j default).k)∧w.cell? ⟨b,off+j*2+1,none⟩=some (.string (l.getD j default).s))
section
variable {w w':World} {B B':Nat} {A:Option Addr} {c:Nat} {l:List Att}
theorem RdA.keep (h:RdA w B A c l) (hk:∀ b o,b<B→w'.cell? ⟨b,o,none⟩=w.cell? ⟨b,o,none⟩):RdA w' B A c l :=
 ⟨h.1,h.2.1,fun hn=>by
  obtain ⟨b,off,e,hb,hc⟩:=h.2.2 hn
  exact ⟨b,off,e,hb,fun j hj=>⟨(hk _ _ hb).trans (hc j hj).1,(hk _ _ hb).trans (hc j hj).2⟩⟩⟩
theorem RdA.more (h:RdA w B A c l) (hB:B≤B'):RdA w B' A c l :=
 ⟨h.1,h.2.1,fun hn=>by
  obtain ⟨b,off,e,hb,hc⟩:=h.2.2 hn
  exact ⟨b,off,e,by omega,hc⟩⟩
theorem RdA.under (h:RdA w B A c l) (hb:Below B w w'):RdA w' B A c l:=h.keep fun b o hlt=>hb.cell (p:=⟨b,o,none⟩) hlt
theorem RdA.next (h:RdA w B A c l) (hB:B≤w.heap.size) (hb:Below w.heap.size w w'):RdA w' w'.heap.size A c l:=((h.more hB).under hb).more hb.size
theorem RdA.drewN (h:RdA w B A c l) (n:Nat):RdA (w.drewN n) B A c l:=h
theorem RdA.nil_ (w:World) (B:Nat) (A:Option Addr) (c:Nat) (h:c≤9223372036854775807):RdA w B A c []:=⟨Nat.zero_le _,h,fun h=>by simp at h⟩
theorem RdA.cut (h:RdA w B A c l) (n:Nat):RdA w B A c (l.take n):=by
 refine ⟨by have:=h.1;simp;omega,h.2.1,fun hn=>?_⟩
 have hn':0<l.length:=by simp at hn;omega
 obtain ⟨b,off,e,hb,hc⟩:=h.2.2 hn'
 refine ⟨b,off,e,hb,fun j hj=>?_⟩
 have hj':j<n∧j<l.length:=by simp at hj;omega
 have e2:(l.take n).getD j default=l.getD j default:=by simp [List.getD,hj'.1]
 rw [e2]
 exact hc j hj'.2
end

theorem guardA:Tryz.prog.eqGuardType Tryz.prog.depth 83 = false:=by kernel_rfl
theorem plain_intA:Tryz.prog.plainKey 3 = true:=by kernel_rfl
theorem plain_strA:Tryz.prog.plainKey 9 = true:=by kernel_rfl
theorem eqA (a b:Int) (s t:ByteArray) (W:World):(Op.equalIn 10000 83 (.agg #[.int .i64 a,.string s]) (.agg #[.int .i64 b,.string t])).run Tryz.prog W = .ok (a == b && (s.toList == t.toList)) W:=by
 refine (run_equalIn_struct W 9999 83 _ _ (by kernel_rfl) (by kernel_rfl)).trans ?_
 have h1:∀ (xs:Array Value) (j:Nat) (v:Value) (W:World),xs[j]?=some v→(Go.part 3 xs j).run Tryz.prog W = .ok v W:=fun xs j v W h=>run_part_plain W plain_intA h
 have h2:∀ (xs:Array Value) (j:Nat) (v:Value) (W:World),xs[j]?=some v→(Go.part 9 xs j).run Tryz.prog W = .ok v W:=fun xs j v W h=>run_part_plain W plain_strA h
 have e1:=h1 #[.int .i64 a,.string s] 0 _ W rfl
 have e2:=h1 #[.int .i64 b,.string t] 0 _ W rfl
 have e3:=h2 #[.int .i64 a,.string s] 1 _ W rfl
 have e4:=h2 #[.int .i64 b,.string t] 1 _ W rfl
 have e5:=run_equalIn_int (P:=Tryz.prog) W 9998 3 .i64 .i64 a b Tryz.underlying3
 have e6:=run_equalIn_string (P:=Tryz.prog) W 9998 9 s t Tryz.underlying9
 simp only [Program.fieldsOf,Tryz.underlying83,Op.eqFields]
 cases h:(a == b)
 ·simp [Sem.run_bind,e1,e2,e5,h,Result.andThen_ok]
 ·cases h':(s.toList == t.toList)
  ·rw [h'] at e6
   simp [Sem.run_bind,e1,e2,e3,e4,e5,e6,h,Result.andThen_ok]
  ·rw [h'] at e6
   simp [Sem.run_bind,e1,e2,e3,e4,e5,e6,h,Result.andThen_ok]

def RelEA (n:Nat) (l l':List Att) (W:World) (i:Value) (wr:World):Prop :=
 ∃ k q:Nat,k≤n∧i = .int .i64 k∧Hid (∀ j,j<k→l.getD j default=l'.getD j default)∧wr=W.drewN q

end Go.Proofs.YtcibjcgipfpniaaGreatDoor
namespace Go.Proofs.YtcibjcgipfpniaaGreatDoor
open Go.RowKit
set_option linter.unusedVariables false

/-- A text of one byte. -/
structure One (s:ByteArray):Prop where
 size:s.size=1
 low:∀ h:0<s.size,s[0].toNat<128

end Go.Proofs.YtcibjcgipfpniaaGreatDoor
namespace Go.Proofs.YtcibjcgipfpniaaGreatDoor
open Go.RowKit
set_option linter.unusedVariables false
set_option linter.unusedSimpArgs false

theorem str_all (t:ByteArray):∃ l:List Nat,t=str l∧∀ x∈l,x<256:=by
 refine ⟨t.data.toList.map UInt8.toNat,?_,fun x hx=>?_⟩
 ·cases t with
  | mk d =>
   unfold str
   congr 1
   rw [List.map_map]
   have:(UInt8.ofNat∘UInt8.toNat)=id:=by funext x;simp
   rw [this,List.map_id]
 ·obtain ⟨y,_,rfl⟩:=List.mem_map.1 hx
  exact y.toNat_lt
/-- A text's bytes. -/
def bts (s:ByteArray):List Nat:=s.data.toList.map UInt8.toNat
theorem bts_oct (s:ByteArray):∀ x∈bts s,x<256:=fun x hx=>by
 obtain ⟨y,_,rfl⟩:=List.mem_map.1 hx
 exact y.toNat_lt
theorem str_bts (s:ByteArray):str (bts s)=s:=by
 cases s with
 | mk d =>
  unfold str bts
  congr 1
  rw [List.map_map]
  have:(UInt8.ofNat∘UInt8.toNat)=id:=by funext x;simp
  rw [this,List.map_id]
theorem bts_str {l:List Nat} (ho:∀ x∈l,x<256):bts (str l)=l:=by
 have h:=str_bts (str l)
 exact str_inj (bts_oct _) ho h
theorem bts_len (s:ByteArray):(bts s).length=s.size:=by rw [bts,List.length_map];rfl
/-- Is there such a kind? -/
def kdOk (k:Int):Bool:=decide (k=3∨k=6∨k=10∨k=11)
/-- May it be a part of a name? -/
def atOk (a:Att):Bool:=kdOk a.k && decide (0<(bts a.s).length) && textOk (bts a.s)
/-- May it be a name? -/
def dnOk (l:List Att):Bool:=decide (1≤l.length∧l.length≤4∧∀ i,i<l.length→atOk (l.getD i default)=true)
theorem dnOk_iff {l:List Att}:dnOk l=true↔1≤l.length∧l.length≤4∧∀ i,i<l.length→atOk (l.getD i default)=true:=by unfold dnOk;rw [decide_eq_true_iff]
theorem dnOk_no {l:List Att} (h:¬ (1≤l.length∧l.length≤4∧∀ i,i<l.length→atOk (l.getD i default)=true)):dnOk l=false:=by rw [Bool.eq_false_iff];exact fun hh=>h (dnOk_iff.1 hh)
theorem atOk_iff {a:Att}:atOk a=true↔kdOk a.k=true∧0<(bts a.s).length∧textOk (bts a.s)=true:=by unfold atOk;rw [Bool.and_eq_true,Bool.and_eq_true,decide_eq_true_iff,and_assoc]
theorem kd_cases {k:Int} (h:kdOk k=true):k=3∨k=6∨k=10∨k=11:=of_decide_eq_true h
/-- A part's thing, a name's thing. -/
def atTr (a:Att):Tr:=.mk 49 [] [.mk 48 [] [.mk 6 [85,4,a.k.toNat] [],.mk 12 (bts a.s) []]]
def dnTr (l:List Att):Tr:=.mk 48 [] (l.map atTr)
theorem empty_no {s:ByteArray} (h:0<(bts s).length):s.toList.isEmpty=false:=by
 rw [Lib.toList_data,List.isEmpty_eq_false_iff]
 intro e
 unfold bts at h
 rw [List.length_map,e] at h
 exact absurd h (by simp)
theorem empty_yes {s:ByteArray} (h:¬ 0<(bts s).length):s.toList.isEmpty=true:=by
 unfold bts at h
 rw [List.length_map] at h
 rw [Lib.toList_data,List.eq_nil_of_length_eq_zero (show s.data.toList.length=0 by omega)]
 rfl
set_option maxRecDepth 100000 in
theorem kind_any (w:World) (k:Int) (b:Bool) (hb:kdOk k=b):Calls Tryz.prog 64 #[.int .i64 k] w fun e w'=>e = .returned (.bool b)∧w=w':=by
 have HB:=Lib.hid hb
 by_cases h3:k=3
 ·have e3:(k == 3)=true:=by simp [h3]
  have HV:Hid (b=true):=Lib.hid (by rw [←HB.out];exact decide_eq_true (by omega))
  clear hb h3
  go_enter Tryz.func64,Tryz.ntmps64
  go_wp2_with fail
  go_ret
  rw [HV.out];exact ⟨rfl,rfl⟩
 have e3:(k == 3)=false:=by simp [h3]
 by_cases h6:k=6
 ·have e6:(k == 6)=true:=by simp [h6]
  have HV:Hid (b=true):=Lib.hid (by rw [←HB.out];exact decide_eq_true (by omega))
  clear hb h3 h6
  go_enter Tryz.func64,Tryz.ntmps64
  go_wp2_with fail
  go_ret
  rw [HV.out];exact ⟨rfl,rfl⟩
 have e6:(k == 6)=false:=by simp [h6]
 by_cases h10:k=10
 ·have e10:(k == 10)=true:=by simp [h10]
  have HV:Hid (b=true):=Lib.hid (by rw [←HB.out];exact decide_eq_true (by omega))
  clear hb h3 h6 h10
  go_enter Tryz.func64,Tryz.ntmps64
  go_wp2_with fail
  go_ret
  rw [HV.out];exact ⟨rfl,rfl⟩
 have e10:(k == 10)=false:=by simp [h10]
 by_cases h11:k=11
 ·have e11:(k == 11)=true:=by simp [h11]
  have HV:Hid (b=true):=Lib.hid (by rw [←HB.out];exact decide_eq_true (by omega))
  clear hb h3 h6 h10 h11
  go_enter Tryz.func64,Tryz.ntmps64
  go_wp2_with fail
  go_ret
  rw [HV.out];exact ⟨rfl,rfl⟩
 have e11:(k == 11)=false:=by simp [h11]
 have HV:Hid (b=false):=Lib.hid (by rw [←HB.out];exact decide_eq_false (by omega))
 clear hb h3 h6 h10 h11
 go_enter Tryz.func64,Tryz.ntmps64
 go_wp2_with fail
 go_ret
 rw [HV.out];exact ⟨rfl,rfl⟩
end Go.Proofs.YtcibjcgipfpniaaGreatDoor
namespace Go.Proofs.YtcibjcgipfpniaaGreatDoor
open Go.RowKit
set_option linter.unusedVariables false
set_option linter.unusedSimpArgs false
attribute [local go_sem ↓] Go.wp_at_zero Go.wp_at_succ

theorem tx_back (l:List Nat):txOf 12 0 l=if textOk l=true then some l else none:=by simp [txOf,heldOk]
def TxAgain (w:World) (v:Bool) (e:Ending) (w':World):Prop:=(∃ s,e = .returned (.tuple #[.string s,.bool v]))∧Below w.heap.size w w'
/-- A text made a thing, and read again. -/
theorem text_again (w:World) (n c kc:Nat) (A K:Option Addr) (b:List Nat) (hr:Rd .u8 w w.heap.size A c b) (hn:b.length=n) (ho:∀ y∈b,y<256) (hT:Lib.Utf8Tabs 0 1 w) (v:Bool) (hv:textOk b=v) :
  Calls Tryz.prog 65 #[.agg #[.int .u8 12,.slice A n c,.slice K 0 kc]] w (TxAgain w v):=by
 have h:=getText_any w 12 n c 0 kc _ A K b hr hn (Nat.le_refl _) ho hT
 rw [tx_back] at h
 refine h.mono fun e w' hh=>?_
 obtain ⟨rfl,hb⟩:=hh.one
 have:(if textOk b=true then some b else none:Option (List Nat)).isSome=v:=by rw [hv];cases v <;> rfl
 rw [this]
 exact ⟨⟨_,rfl⟩,hb⟩
set_option maxRecDepth 100000 in
set_option maxHeartbeats 4000000 in
theorem isDn_any (w:World) (B:Nat) (A:Option Addr) (c n:Nat) (l:List Att) (hn:l.length=n) (hr:RdA w B A c l) (hB:B≤w.heap.size) (hsz:∀ x∈l,(bts x.s).length≤9223372036854775807) (hT:Lib.Utf8Tabs 0 1 w) :
  Calls Tryz.prog 26 #[.slice A n c] w fun e w'=>e = .returned (.bool (dnOk l))∧Below w.heap.size w w':=by
 have hlc:n≤c:=by rw [←hn];exact hr.1
 have hc63:=hr.2.1
 obtain ⟨r,hre⟩:∃ r,dnOk l=r:=⟨_,rfl⟩
 rw [hre]
 have HR:=Lib.hid hre
 have HN:=Lib.hid hn
 have HT:=Lib.hid hT
 have HRD:=Lib.hid hr
 have HSZ:=Lib.hid hsz
 clear hre hn hT hr hsz
 by_cases h1:n<1
 ·have d1:decide ((n:Int)<1)=true:=decide_eq_true (by omega)
  have hf:r=false:=by rw [←HR.out];exact dnOk_no (by rw [HN.out];omega)
  have HF:=Lib.hid hf
  clear hf
  go_enter Tryz.func26,Tryz.ntmps26
  go_wp2_with fail
  go_ret
  rw [HF.out];exact ⟨rfl,Below.refl _ _⟩
 have d1:decide ((n:Int)<1)=false:=decide_eq_false (by omega)
 by_cases h4:4<n
 ·have d4:decide ((4:Int)<(n:Int))=true:=decide_eq_true (by omega)
  have hf:r=false:=by rw [←HR.out];exact dnOk_no (by rw [HN.out];omega)
  have HF:=Lib.hid hf
  clear hf
  go_enter Tryz.func26,Tryz.ntmps26
  go_wp2_with fail
  go_ret
  rw [HF.out];exact ⟨rfl,Below.refl _ _⟩
 have d4:decide ((4:Int)<(n:Int))=false:=decide_eq_false (by omega)
 obtain ⟨g,off,rfl,hg,hcs⟩:=HRD.out.2.2 (by rw [HN.out];omega)
 have HCS:=Lib.hid hcs
 clear hcs
 go_enter Tryz.func26,Tryz.ntmps26
 go_wp2_with fail
 go_loopw [17] (fun iv wr=>∃ k:Nat,k≤n∧iv = .int .i64 (k:Int)∧Hid (∀ j,j<k→atOk (l.getD j default)=true)∧Below w.heap.size w wr) (fun iv _=>n - (intOf iv).toNat)
 case atStart=>exact ⟨0,by omega,rfl,Lib.hid fun j hj=>by omega,Below.refl _ _⟩
 case round =>
  obtain ⟨k,hk,rfl,HA,hB'⟩:=hrel
  have HB:=Lib.hid hB'
  clear hB'
  by_cases hlt:k<n
  ·obtain ⟨q0,q1⟩:=HCS.out k (by rw [HN.out];exact hlt)
   have c0:=(HB.out.cell (p:=⟨g,off+k*2,none⟩) (by show g<_;omega)).trans q0
   have c1:=(HB.out.cell (p:=⟨g,off+k*2+1,none⟩) (by show g<_;omega)).trans q1
   obtain ⟨a,ha⟩:∃ a,a=l.getD k default:=⟨_,rfl⟩
   rw [←ha] at c0 c1
   have HAA:=Lib.hid ha
   obtain ⟨kd,s⟩:=a
   dsimp only at c0 c1
   obtain ⟨L,rfl,hoL⟩:=str_all s
   have HOL:=Lib.hid hoL
   clear q0 q1 ha hoL
   have hH:=Holds.fresh wr 83 #[.int .i64 kd,.string (str L)]
   have HQ1:Hid (Below w.heap.size w (wr.alloc (.cells #[.int .i64 kd,.string (str L)] 83))):=Lib.hid (HB.out.alloc HB.out.size _)
   have z0:=hH.cell 0
   have z1:=hH.cell 1
   clear hH
   rcases hkd:kdOk kd with _ | _
   ·have hf:r=false:=by rw [←HR.out];exact dnOk_no fun h=>by have:=(atOk_iff.1 (h.2.2 k (by rw [HN.out];exact hlt))).1;rw [←HAA.out,hkd] at this;cases this
    have HF:=Lib.hid hf
    have HK:=Lib.hid (kind_any (wr.alloc (.cells #[.int .i64 kd,.string (str L)] 83)) kd false hkd)
    clear hf hkd
    go_wp2_with fail
    refine HK.out.mono ?_
    rintro e w2 ⟨rfl,rfl⟩
    go_wp2_with fail
    go_ret
    rw [HF.out];exact ⟨rfl,HQ1.out⟩
   have HK:=Lib.hid (kind_any (wr.alloc (.cells #[.int .i64 kd,.string (str L)] 83)) kd true hkd)
   have HKD:=Lib.hid hkd
   clear hkd
   by_cases hem:0<L.length
   case neg =>
    have hf:r=false:=by rw [←HR.out];exact dnOk_no fun h=>by have:=(atOk_iff.1 (h.2.2 k (by rw [HN.out];exact hlt))).2.1;rw [←HAA.out] at this;exact hem (by rwa [bts_str HOL.out] at this)
    have HF:=Lib.hid hf
    have e0:=empty_yes (s:=str L) (by rw [bts_str HOL.out];exact hem)
    clear hf
    go_wp2_with fail
    refine HK.out.mono ?_
    rintro e w2 ⟨rfl,rfl⟩
    go_wp2_with fail
    go_ret
    rw [HF.out];exact ⟨rfl,HQ1.out⟩
   have e0:=empty_no (s:=str L) (by rw [bts_str HOL.out];exact hem)
   have HEM:=Lib.hid hem
   clear hem
   obtain ⟨tk,htk⟩:∃ tk,textOk L=tk:=⟨_,rfl⟩
   have HTK:=Lib.hid htk
   clear htk
   have h100:L.length≤9223372036854775807:=by
    have:=HSZ.out (l.getD k default) (getD_mem (by rw [HN.out];exact hlt))
    rw [←HAA.out] at this
    rwa [bts_str HOL.out] at this
   go_wp2_with fail
   refine HK.out.mono ?_
   rintro e w2 ⟨rfl,rfl⟩
   go_wp2_with fail
   refine (text_any _ [] L HOL.out h100 (by simp)).mono ?_
   intro e w3 hm
   obtain ⟨a3,d3,K3,e3,rfl,hr3,hb⟩:=hm.prim
   have HQ3:=Lib.hid (HQ1.out.trans (hb.mono HQ1.out.size))
   obtain ⟨m3,hm3⟩:∃ m,L.length=m:=⟨_,rfl⟩
   have HTX:=Lib.hid (text_again w3 m3 d3 e3 a3 K3 L hr3 hm3 HOL.out (Utf8Tabs_below HT.out HQ3.out) tk HTK.out)
   rw [hm3]
   clear hm hb hr3 hm3 HK
   go_wp2_with fail
   refine HTX.out.mono ?_
   rintro e w4 ⟨⟨s4,rfl⟩,hb⟩
   have HQ4:=Lib.hid (HQ3.out.trans (hb.mono HQ3.out.size))
   clear hb HTX
   cases tk
   ·have hf:r=false:=by rw [←HR.out];exact dnOk_no fun h=>by have:=(atOk_iff.1 (h.2.2 k (by rw [HN.out];exact hlt))).2.2;rw [←HAA.out] at this;rw [bts_str HOL.out,HTK.out] at this;cases this
    have HF:=Lib.hid hf
    clear hf
    go_wp2_with fail
    go_ret
    rw [HF.out];exact ⟨rfl,HQ4.out⟩
   ·have HA2:Hid (∀ j,j<k+1→atOk (l.getD j default)=true):=Lib.hid fun j hj=>by
     rcases Nat.lt_or_ge j k with h | h
     ·exact HA.out j h
     ·obtain rfl:j=k:=by omega
      rw [←HAA.out]
      exact atOk_iff.2 ⟨HKD.out,by rw [bts_str HOL.out];exact HEM.out,by rw [bts_str HOL.out];exact HTK.out⟩
    go_wp2_with fail
    go_roundw
    case rel=>exact ⟨k+1,by omega,by go_num,HA2,HQ4.out⟩
    case measure=>simp [intOf];omega
  ·obtain rfl:k=n:=by omega
   have hf:r=true:=by rw [←HR.out];exact dnOk_iff.2 ⟨by rw [HN.out];omega,by rw [HN.out];omega,fun i hi=>HA.out i (by rw [HN.out] at hi;exact hi)⟩
   have HF:=Lib.hid hf
   clear hf
   go_wp2_with fail
   go_ret
   rw [HF.out];exact ⟨rfl,HB.out⟩
end Go.Proofs.YtcibjcgipfpniaaGreatDoor
namespace Go.Proofs.YtcibjcgipfpniaaGreatDoor
open Go.RowKit
set_option linter.unusedVariables false

/-- A serial, and when it was revoked. -/
structure GV where
 ser:List Nat
 tm:Int
structure Gn where
 sa:Option Addr
 sc:Nat
 ser:List Nat
 tm:Int
instance:Inhabited GV:=⟨⟨[],0⟩⟩
instance:Inhabited Gn:=⟨⟨none,0,[],0⟩⟩
def Gn.v (g:Gn):GV:=⟨g.ser,g.tm⟩
def gcell (g:Gn):List Value:=[.slice g.sa g.ser.length g.sc,.int .i64 g.tm]
def GnP (g:Gn) (w:World):Prop:=Rd .u32 w w.heap.size g.sa g.sc g.ser∧Dg g.ser
/-- The row's cells. -/
def RowG (w:World) (B:Nat) (A:Option Addr) (c:Nat) (l:List Gn):Prop :=
 l.length≤c∧c≤9223372036854775807∧(0<l.length→∃ b off,A=some ⟨b,off,none⟩∧b<B∧∀ j,j<l.length→w.cell? ⟨b,off+j*2,none⟩=some (.slice (l.getD j default).sa (l.getD j default).ser.length (l.getD j default).sc) ∧
  w.cell? ⟨b,off+j*2+1,none⟩=some (.int .i64 (l.getD j default).tm))
def GsP (A:Option Addr) (c:Nat) (l:List Gn) (w:World):Prop:=RowG w w.heap.size A c l∧∀ x∈l,GnP x w
theorem GsP.none (w:World):GsP none 0 [] w:=⟨⟨by simp,by omega,fun h=>by simp at h⟩,fun x hx=>by cases hx⟩
theorem RowG.congr {w w':World} {B:Nat} {A:Option Addr} {c:Nat} {l:List Gn} (h:RowG w B A c l) (hk:∀ g,g<B→w'.heap[g]?=w.heap[g]?):RowG w' B A c l :=
 ⟨h.1,h.2.1,fun hn=>by
  obtain ⟨b,off,e,hlt,hc⟩:=h.2.2 hn
  have hx:∀ o,w'.cell? ⟨b,o,Option.none⟩=w.cell? ⟨b,o,Option.none⟩:=fun o=>by simp only [World.cell?];rw [hk b hlt]
  exact ⟨b,off,e,hlt,fun j hj=>⟨(hx _).trans (hc j hj).1,(hx _).trans (hc j hj).2⟩⟩⟩
theorem RowG.more {w:World} {B B':Nat} {A:Option Addr} {c:Nat} {l:List Gn} (h:RowG w B A c l) (hB:B≤B'):RowG w B' A c l :=
 ⟨h.1,h.2.1,fun hn=>by
  obtain ⟨b,off,e,hlt,hc⟩:=h.2.2 hn
  exact ⟨b,off,e,by omega,hc⟩⟩
theorem Off.of_g {A:Option Addr} {c:Nat} {l:List Gn} {w:World} (h:GsP A c l w):Off [] (GsP A c l) w:=fun w' h2 h3=>by
 have hk:∀ g,g<w.heap.size→w'.heap[g]?=w.heap[g]?:=fun g hg=>h3 g (by simp) hg
 exact ⟨(h.1.congr hk).more h2,fun x hx=>⟨((h.2 x hx).1.congr hk).more h2,(h.2 x hx).2⟩⟩
theorem GsP.at_ {A:Option Addr} {c j:Nat} {l:List Gn} {w:World} (h:GsP A c l w) (hj:j<l.length):GnP (l.getD j default) w:=h.2 _ (getD_mem hj)
theorem gv_at {l:List Gn} {j:Nat} (h:j<l.length):(l.map Gn.v).getD j default=(l.getD j default).v:=by simp [List.getD,h]
/-- May it be a serial, a time? -/
def serOk (l:List Nat):Bool:=okN l && decide (0<l.length) && decide (nb l<160)
def whenOk (t:Int):Bool:=decide (-631152000≤t) && decide (t≤253402300799)
def gnOk (l:List GV) (i:Nat):Bool:=serOk (l.getD i default).ser && whenOk (l.getD i default).tm && (decide (i=0) || decide (cmpL (l.getD (i - 1) default).ser (l.getD i default).ser<0))
def gonesOk (l:List GV):Bool:=decide (∀ i,i<l.length→gnOk l i=true)
theorem gonesOk_iff {l:List GV}:gonesOk l=true↔∀ i,i<l.length→gnOk l i=true:=by unfold gonesOk;rw [decide_eq_true_iff]
theorem gonesOk_no {l:List GV} {i:Nat} (hi:i<l.length) (h:gnOk l i=false):gonesOk l=false:=by
 rw [Bool.eq_false_iff];intro hh
 rw [gonesOk_iff.1 hh i hi] at h;cases h
theorem gnOk_eq {l:List GV} {i:Nat} {a p:List Nat} {t:Int} (ha:(l.getD i default).ser=a) (ht:(l.getD i default).tm=t) (hp:(l.getD (i - 1) default).ser=p):gnOk l i=(serOk a && whenOk t && (decide (i=0) || decide (cmpL p a<0))):=by
 unfold gnOk;rw [ha,ht,hp]
theorem whenOk_iff {t:Int}:whenOk t=true↔-631152000≤t∧t≤253402300799:=by unfold whenOk;simp
theorem whenOk_no {t:Int}:whenOk t=false↔t < -631152000∨253402300799<t:=by
 rw [Bool.eq_false_iff,Ne,whenOk_iff];omega
theorem serOk_iff {l:List Nat}:serOk l=true↔okN l=true∧0<l.length∧nb l<160:=by unfold serOk;simp [and_assoc]
/-- A row as it is told. -/
structure CV where
 iss:List Att
 at_:Int
 next:Int
 gone:List GV
 sig:List Nat
def crlOk (v:CV):Bool:=dnOk v.iss && whenOk v.at_ && whenOk v.next && decide (v.at_≤v.next) && decide (v.gone.length≤16) && decide (1≤v.sig.length∧v.sig.length≤600) && gonesOk v.gone
/-- A row in memory: its seven parts' places. -/
structure Cl where
 ia:Option Addr
 ic:Nat
 iss:List Att
 at_:Int
 next:Int
 ga:Option Addr
 gc:Nat
 gone:List Gn
 sa:Option Addr
 sc:Nat
 sig:List Nat
def Cl.v (c:Cl):CV:=⟨c.iss,c.at_,c.next,c.gone.map Gn.v,c.sig⟩
def ccell (c:Cl):List Value:=[.slice c.ia c.iss.length c.ic,.int .i64 c.at_,.int .i64 c.next,.slice c.ga c.gone.length c.gc,.slice c.sa c.sig.length c.sc]
def ClP (c:Cl) (w:World):Prop:=RdA w w.heap.size c.ia c.ic c.iss∧GsP c.ga c.gc c.gone w∧Rd .u8 w w.heap.size c.sa c.sc c.sig∧∀ x∈c.sig,x<256
theorem Off.of_a {w:World} {A:Option Addr} {c:Nat} {l:List Att} (h:RdA w w.heap.size A c l):Off [] (fun w=>RdA w w.heap.size A c l) w:=fun w' h2 h3 =>
 (h.keep (fun b o hb=>by simp only [World.cell?];rw [h3 b (by simp) hb])).more h2
theorem Off.of_c {c:Cl} {w:World} (h:ClP c w):Off [] (ClP c) w:=fun w' h2 h3 =>
 ⟨Off.of_a h.1 w' h2 h3,Off.of_g h.2.1 w' h2 h3,Off.of_rd h.2.2.1 (Nat.le_refl _) w' h2 h3,h.2.2.2⟩
theorem cmp_zero {a b:List Nat}:cmpL a b=0↔a=b:=by
 constructor
 ·intro h0
  unfold cmpL at h0
  by_cases h1:a.length<b.length
  ·rw [if_pos h1] at h0;cases h0
  ·by_cases h2:b.length<a.length
   ·rw [if_neg h1,if_pos h2] at h0;cases h0
   ·rw [if_neg h1,if_neg h2] at h0
    apply List.ext_getElem (by omega)
    intro i i1 i2
    have:=top_zero a b _ h0 i i1
    simpa [List.getD,i1,i2] using this
 ·rintro rfl;exact cmpL_refl a
/-- Is a serial among them, from that time on? -/
def goneS (l:List GV) (s:List Nat) (t:Int):Bool:=l.any fun g=>decide (g.ser=s) && decide (g.tm≤t)
end Go.Proofs.YtcibjcgipfpniaaGreatDoor
namespace Go.Proofs.YtcibjcgipfpniaaGreatDoor
open Go.RowKit
set_option linter.unusedVariables false
set_option linter.unusedSimpArgs false
attribute [local go_sem ↓] Go.wp_at_zero Go.wp_at_succ

set_option maxRecDepth 100000 in
theorem when_any (w:World) (t:Int):Calls Tryz.prog 27 #[.int .i64 t] w fun e w'=>e = .returned (.bool (whenOk t))∧w=w':=by
 rcases h:whenOk t with _ | _
 ·rcases whenOk_no.1 h with h | h
  ·go_enter Tryz.func27,Tryz.ntmps27
   go_wp2_with fail
   go_ret
   exact ⟨rfl,rfl⟩
  ·have hd:decide (t≤253402300799)=false:=decide_eq_false (by omega)
   go_enter Tryz.func27,Tryz.ntmps27
   go_wp2_with fail
   go_ret
   exact ⟨rfl,rfl⟩
 ·obtain ⟨h1,h2⟩:=whenOk_iff.1 h
  go_enter Tryz.func27,Tryz.ntmps27
  go_wp2_with fail
  go_ret
  exact ⟨rfl,rfl⟩
set_option maxRecDepth 100000 in
set_option maxHeartbeats 2000000 in
theorem int_no (w:World) (B:Nat) (A:Option Addr) (c n:Nat) (l:List Nat) (hr:Rd .u32 w B A c l) (hn:l.length=n) (hB:B≤w.heap.size) (hok:okN l=false) :
  Calls Tryz.prog 29 #[.slice A n c] w fun e w'=>e = .returned (.agg #[.int .u8 0,.slice none 0 0,.slice none 0 0])∧Below w.heap.size w w':=by
 obtain ⟨V,hV⟩:∃ V,V=w.alloc (.cells #[.int .u8 0,.slice none 0 0,.slice none 0 0] 32):=⟨_,rfl⟩
 have hq:Below w.heap.size w V:=by rw [hV];exact (Below.refl _ _).alloc (Nat.le_refl _) _
 have HB0:=Lib.hid hq
 have hz:Holds V w.heap.size 32 #[.int .u8 0,.slice none 0 0,.slice none 0 0]:=by rw [hV];exact Holds.fresh _ _ _
 have HIS:=Lib.hid (is_at V B A c n l (hr.under (hq.mono hB)) hn false hok)
 have HZ:=Lib.hid hz
 have HV:=Lib.hid hV
 have z0:=hz.cell 0
 have z1:=hz.cell 1
 have z2:=hz.cell 2
 have y0:=hz.open_ 0
 have y1:=hz.open_ 1
 have y2:=hz.open_ 2
 clear hr hn hok hz hV hq
 go_enter Tryz.func29,Tryz.ntmps29
 go_wp2_with fail
 rw [←HV.out]
 refine HIS.out.mono ?_
 rintro e w2 ⟨rfl,rfl⟩
 clear HIS HV
 go_wp2_with fail
 refine ret_one rfl rfl (((HZ.out.stored 0 _).stored 1 _).stored 2 _) rfl ?_
 exact ⟨rfl,below_out HB0.out _ _ _⟩
/-- A number's thing, whatever it is; what is read of it as a serial. -/
theorem intV (w:World) (B:Nat) (A:Option Addr) (c n:Nat) (l:List Nat) (hr:Rd .u32 w B A c l) (hn:l.length=n) (hB:B≤w.heap.size) (hd:Dg l) :
  Calls Tryz.prog 29 #[.slice A n c] w fun e w'=>∃ (x n2 c2:Nat) (A2:Option Addr) (b:List Nat),e = .returned (.agg #[.int .u8 (x:Int),.slice A2 n2 c2,.slice none 0 0])∧Rd .u8 w' w'.heap.size A2 c2 b∧b.length=n2∧(∀ y∈b,y<256) ∧
   Hid ((if heldOk x 0 2=true then gi b 20 else none)=if okN l=true∧nb l<160 then some l else none)∧Below w.heap.size w w':=by
 rcases hok:okN l with _ | _
 ·refine (int_no w B A c n l hr hn hB hok).mono ?_
  rintro e w' ⟨rfl,hb⟩
  exact ⟨0,0,0,none,[],rfl,Rd.nil_ _ _ _,rfl,(fun y hy=>by cases hy),Lib.hid (by rw [if_neg (by decide),if_neg (by simp)]),hb⟩
 ·refine (int_any w B A c n l hr hn hB hd hok).mono ?_
  rintro e w' ⟨v,rfl,⟨A2,c2,rfl,hr2,_,ho,_⟩,hb⟩
  obtain ⟨h256,hnr⟩:=okN_iff.1 hok
  refine ⟨2,_,c2,A2,intB l,rfl,hr2,rfl,ho,Lib.hid ?_,hb⟩
  rw [if_pos (by decide)]
  by_cases h:nb l<160
  ·rw [if_pos ⟨rfl,h⟩,gi_int hd hnr h256 (by omega)]
  ·rw [if_neg (fun h2=>h h2.2),gi_int_far (by omega)]
theorem ser_get {l:List Nat} {o:Option (List Nat)} (h:o=if okN l=true∧nb l<160 then some l else none):(o=none∧serOk l=false)∨(o=some l∧serOk l=decide (0<l.length)):=by
 by_cases h2:okN l=true∧nb l<160
 ·rw [if_pos h2] at h
  exact .inr ⟨h,by unfold serOk;rw [h2.1,decide_eq_true h2.2];simp⟩
 ·rw [if_neg h2] at h
  refine .inl ⟨h,?_⟩
  rw [Bool.eq_false_iff];intro hh
  exact h2 ⟨(serOk_iff.1 hh).1,(serOk_iff.1 hh).2.2⟩
set_option maxRecDepth 100000 in
set_option maxHeartbeats 16000000 in
theorem crlIs_any (w:World) (cl:Cl) (h:ClP cl w) (hT:Lib.Utf8Tabs 0 1 w) (hsz:∀ x∈cl.iss,(bts x.s).length≤9223372036854775807) :
  Calls Tryz.prog 7 #[.agg (ccell cl).toArray] w fun e w'=>e = .returned (.bool (crlOk cl.v))∧Below w.heap.size w w':=by
 obtain ⟨r,HR⟩:∃ r,Hid (r=crlOk cl.v):=⟨_,rfl⟩
 rw [←HR.out]
 have hoc:=Off.of_c h
 have hq0:Below w.heap.size w (w.alloc (.cells (ccell cl).toArray 26)):=(Below.refl _ _).alloc (Nat.le_refl _) _
 have hH0:=Holds.fresh w 26 (ccell cl).toArray
 obtain ⟨ia,ic,iss,tat,tnx,ga,gc,gone,sa,sc,sig⟩:=cl
 simp only [ccell] at hq0 hH0 ⊢
 obtain ⟨isn,hisn⟩:∃ k,iss.length=k:=⟨_,rfl⟩
 obtain ⟨gn,hgn⟩:∃ k,gone.length=k:=⟨_,rfl⟩
 obtain ⟨sn,hsn⟩:∃ k,sig.length=k:=⟨_,rfl⟩
 have HRV:Hid (r=(dnOk iss && whenOk tat && whenOk tnx && decide (tat≤tnx) && decide (gn≤16) && decide (1≤sn∧sn≤600) && gonesOk (gone.map Gn.v))):=Lib.hid (by
  rw [HR.out]
  unfold crlOk Cl.v
  rw [List.length_map,hgn,hsn])
 clear HR
 rw [hisn,hgn,hsn] at hq0 hH0 ⊢
 obtain ⟨w1,hw1⟩:∃ W,W=w.alloc (.cells #[.slice ia isn ic,.int .i64 tat,.int .i64 tnx,.slice ga gn gc,.slice sa sn sc] 26):=⟨_,rfl⟩
 have hq0':Below w.heap.size w w1:=by rw [hw1];exact hq0
 have hH0':Holds w1 w.heap.size 26 #[.slice ia isn ic,.int .i64 tat,.int .i64 tnx,.slice ga gn gc,.slice sa sn sc]:=by rw [hw1];exact hH0
 have hc1:=hoc.under hq0'
 have HDN:=Lib.hid (isDn_any w1 _ ia ic isn iss hisn hc1.at_.1 (Nat.le_refl _) hsz (Utf8Tabs_below hT hq0'))
 have HOC:Hid (Off [] (GsP ga gc gone) w1):=Lib.hid (hc1.imp fun _ hh=>hh.2.1)
 have HB1:=Lib.hid hq0'
 have HH1:=Lib.hid hH0'
 have HGN:=Lib.hid hgn
 have HW1:=Lib.hid hw1
 have c0:=hH0'.cell 0
 clear h hT hsz hoc hq0 hH0 hq0' hH0' hc1 hisn hgn hsn hw1
 have CALL:Hid (∀ W,Below w1.heap.size w1 W→W.cell? ⟨w.heap.size,0,none⟩=some (.slice ia isn ic)∧W.cell? ⟨w.heap.size,1,none⟩=some (.int .i64 tat)∧W.cell? ⟨w.heap.size,2,none⟩=some (.int .i64 tnx)∧W.cell? ⟨w.heap.size,3,none⟩=some (.slice ga gn gc)∧W.cell? ⟨w.heap.size,4,none⟩=some (.slice sa sn sc)):=Lib.hid fun W hW=>by
  have h:=HH1.out.under hW HH1.out.lt
  exact ⟨h.cell 0,h.cell 1,h.cell 2,h.cell 3,h.cell 4⟩
 go_enter Tryz.func7,Tryz.ntmps7
 rw [HW1.out] at c0
 go_wp2_with fail
 rw [←HW1.out]
 refine HDN.out.mono ?_
 clear c0
 rintro e w2 ⟨rfl,hb2⟩
 have HB2:=Lib.hid (HB1.out.trans (hb2.mono HB1.out.size))
 have HX2:=Lib.hid (HOC.out.under hb2)
 obtain ⟨k0,k1,k2,k3,k4⟩:=CALL.out w2 hb2
 have HK2:Hid (∀ W,Below w2.heap.size w2 W→W.cell? ⟨w.heap.size,0,none⟩=some (.slice ia isn ic)∧W.cell? ⟨w.heap.size,1,none⟩=some (.int .i64 tat)∧W.cell? ⟨w.heap.size,2,none⟩=some (.int .i64 tnx)∧W.cell? ⟨w.heap.size,3,none⟩=some (.slice ga gn gc)∧W.cell? ⟨w.heap.size,4,none⟩=some (.slice sa sn sc)):=Lib.hid fun W hW=>CALL.out W (hb2.trans (hW.mono hb2.size))
 clear hb2 HDN HW1 CALL HB1 HH1 HOC
 rcases hdn:dnOk iss with _ | _
 ·have HE:Hid (r=false):=Lib.hid (by rw [HRV.out,hdn];rfl)
  clear hdn
  go_wp2_with fail
  go_ret
  exact ⟨by rw [HE.out];rfl,HB2.out⟩
 have HW1:=Lib.hid (when_any w2 tat)
 go_wp2_with fail
 refine HW1.out.mono ?_
 rintro e w3 ⟨rfl,rfl⟩
 rcases hwa:whenOk tat with _ | _
 ·have HE:Hid (r=false):=Lib.hid (by rw [HRV.out,hwa];simp)
  clear hdn hwa
  go_wp2_with fail
  go_ret
  exact ⟨by rw [HE.out];rfl,HB2.out⟩
 have HW2:=Lib.hid (when_any w2 tnx)
 go_wp2_with fail
 refine HW2.out.mono ?_
 rintro e w3 ⟨rfl,rfl⟩
 rcases hwn:whenOk tnx with _ | _
 ·have HE:Hid (r=false):=Lib.hid (by rw [HRV.out,hwn];simp)
  clear hdn hwa hwn
  go_wp2_with fail
  go_ret
  exact ⟨by rw [HE.out];rfl,HB2.out⟩
 by_cases hle:tat≤tnx
 case neg =>
  have HE:Hid (r=false):=Lib.hid (by rw [HRV.out,decide_eq_false hle];simp)
  have d:decide (tnx<tat)=true:=decide_eq_true (by omega)
  clear hdn hwa hwn
  go_wp2_with fail
  go_ret
  exact ⟨by rw [HE.out];rfl,HB2.out⟩
 have dle:decide (tnx<tat)=false:=decide_eq_false (by omega)
 by_cases h16:16<gn
 case pos =>
  have HE:Hid (r=false):=Lib.hid (by rw [HRV.out,decide_eq_false (show ¬ gn≤16 by omega)];simp)
  have d:decide ((16:Int)<(gn:Int))=true:=decide_eq_true (by omega)
  clear hdn hwa hwn
  go_wp2_with fail
  go_ret
  exact ⟨by rw [HE.out];rfl,HB2.out⟩
 have d16:decide ((16:Int)<(gn:Int))=false:=decide_eq_false (by omega)
 by_cases h1:sn<1
 case pos =>
  have HE:Hid (r=false):=Lib.hid (by rw [HRV.out,decide_eq_false (show ¬ (1≤sn∧sn≤600) by omega)];simp)
  have d:decide ((sn:Int)<(1:Int))=true:=decide_eq_true (by omega)
  clear hdn hwa hwn
  go_wp2_with fail
  go_ret
  exact ⟨by rw [HE.out];rfl,HB2.out⟩
 have d1:decide ((sn:Int)<(1:Int))=false:=decide_eq_false (by omega)
 by_cases h600:600<sn
 case pos =>
  have HE:Hid (r=false):=Lib.hid (by rw [HRV.out,decide_eq_false (show ¬ (1≤sn∧sn≤600) by omega)];simp)
  have d:decide ((600:Int)<(sn:Int))=true:=decide_eq_true (by omega)
  clear hdn hwa hwn
  go_wp2_with fail
  go_ret
  exact ⟨by rw [HE.out];rfl,HB2.out⟩
 have d600:decide ((600:Int)<(sn:Int))=false:=decide_eq_false (by omega)
 have HRG:Hid (r=gonesOk (gone.map Gn.v)):=Lib.hid (by rw [HRV.out,hdn,hwa,hwn,decide_eq_true hle,decide_eq_true (show gn≤16 by omega),decide_eq_true (show 1≤sn∧sn≤600 by omega)];simp)
 have hgc:=HX2.out.at_.1.1
 have hgc63:=HX2.out.at_.1.2.1
 rw [HGN.out] at hgc
 clear hdn hwa hwn HRV
 go_wp2_with fail
 clear d600 d1 d16 dle k0 k1 k2 k3 k4 HW1 HW2
 go_loopw [49] (fun iv wr=>∃ i:Nat,i≤gn∧iv = .int .i64 (i:Int)∧Hid (∀ j,j<i→gnOk (gone.map Gn.v) j=true)∧Below w2.heap.size w2 wr) (fun iv _=>gn - (intOf iv).toNat)
 case atStart=>exact ⟨0,by omega,rfl,fun j hj=>by omega,Below.refl _ _⟩
 case round =>
  obtain ⟨i,hi,rfl,HA,hB⟩:=hrel
  by_cases hlt:i<gn
  ·have hx:=(HX2.out.under hB).at_
   obtain ⟨g,off,rfl,hg,hcs⟩:=hx.1.2.2 (by rw [HGN.out];omega)
   obtain ⟨c0,c1⟩:=hcs i (by rw [HGN.out];exact hlt)
   have hxe:=hx.at_ (by rw [HGN.out];exact hlt)
   have HV:Hid ((gone.map Gn.v).getD i default=(gone.getD i default).v):=Lib.hid (gv_at (by rw [HGN.out];exact hlt))
   obtain ⟨e,he⟩:∃ e,e=gone.getD i default:=⟨_,rfl⟩
   rw [←he] at c0 c1 hxe HV
   clear he hcs
   obtain ⟨ea,ec,ser,tm⟩:=e
   obtain ⟨hr1,hd1⟩:=hxe
   dsimp only at c0 c1 hr1 hd1
   obtain ⟨n1,hn1⟩:∃ n1,ser.length=n1:=⟨_,rfl⟩
   rw [hn1] at c0
   have HN1:=Lib.hid hn1
   have HBW:=Lib.hid hB
   have hq1:Below wr.heap.size wr (wr.alloc (.cells #[.slice ea n1 ec,.int .i64 tm] 44)):=(Below.refl _ _).alloc (Nat.le_refl _) _
   have hb1:=hB.trans (hq1.mono hB.size)
   have hH1:=Holds.fresh wr 44 #[.slice ea n1 ec,.int .i64 tm]
   have HH1:=Lib.hid hH1
   have HQ1:=Lib.hid hq1
   have HB1:=Lib.hid hb1
   have z0:=hH1.cell 0
   have z1:=hH1.cell 1
   have HRI:Hid (∀ W,Below wr.heap.size wr W→Rd .u32 W wr.heap.size ea ec ser):=Lib.hid fun W hW=>hr1.under hW
   have HIV:=Lib.hid (intV (wr.alloc (.cells #[.slice ea n1 ec,.int .i64 tm] 44)) wr.heap.size ea ec n1 ser (hr1.under hq1) hn1 hq1.size hd1)
   have HOX:Hid (∀ W,Below w2.heap.size w2 W→GsP (some ⟨g,off,none⟩) gc gone W):=Lib.hid fun W hW=>(HX2.out.under hW).at_
   have HGO:Hid (gnOk (gone.map Gn.v) i=(serOk ser && whenOk tm && (decide (i=0) || decide (cmpL ((gone.map Gn.v).getD (i - 1) default).ser ser<0)))):=Lib.hid (gnOk_eq (by rw [HV.out];rfl) (by rw [HV.out];rfl) rfl)
   have HNO:Hid (gnOk (gone.map Gn.v) i=false→r=false):=Lib.hid fun h=>by rw [HRG.out];exact gonesOk_no (i:=i) (by rw [List.length_map,HGN.out];exact hlt) h
   have HD1:=Lib.hid hd1
   clear hx hr1 hn1 hq1 hB hb1 hH1 hd1
   go_wp2_with fail
   refine HIV.out.mono ?_
   rintro ex w5 ⟨x,n2,c2,A2,b,rfl,hr5,hn5,ho5,HG5,hb5⟩
   have HB5:=Lib.hid (HB1.out.trans (hb5.mono HB1.out.size))
   have HQ5:=Lib.hid (HQ1.out.trans (hb5.mono HQ1.out.size))
   have HH5:=Lib.hid (HH1.out.under hb5 HH1.out.lt)
   have HGI:=Lib.hid (getInt_any w5 x n2 c2 0 0 _ A2 none b 20 hr5 hn5 (Nat.le_refl _) ho5)
   clear hr5 hn5 ho5 hb5 z0 z1 HIV HH1 HQ1 HB1
   obtain ⟨o,HO⟩:∃ o,Hid (o=if heldOk x 0 2=true then gi b 20 else none):=⟨_,rfl⟩
   rw [←HO.out] at HGI
   have hgs:=ser_get (HO.out.trans HG5.out)
   clear HO HG5
   go_wp2_with fail
   refine HGI.out.mono ?_
   obtain ⟨rfl,hso⟩ | ⟨rfl,hso⟩:=hgs
   ·rintro ex w6 ⟨rfl,hb6⟩
    have HE:Hid (r=false):=Lib.hid (HNO.out (by rw [HGO.out,hso];rfl))
    have HB6:=Lib.hid (HB2.out.trans ((HB5.out.trans (hb6.mono HB5.out.size)).mono HB2.out.size))
    clear hb6 hso
    go_wp2_with fail
    go_ret
    exact ⟨by rw [HE.out];rfl,HB6.out⟩
   ·rintro ex w6 ⟨A6,c6,rfl,hr6,hb6⟩
    rw [HN1.out] at hso ⊢
    have HB6:=Lib.hid (HB5.out.trans (hb6.mono HB5.out.size))
    have HQ6:=Lib.hid (HQ5.out.trans (hb6.mono HQ5.out.size))
    have hH6:=HH5.out.under hb6 HH5.out.lt
    have z0:=hH6.cell 0
    have z1:=hH6.cell 1
    clear hb6 hr6 hH6
    have HBB:=Lib.hid (HB2.out.trans (HB6.out.mono HB2.out.size))
    by_cases h0:n1=0
    case pos =>
     have HE:Hid (r=false):=Lib.hid (HNO.out (by rw [HGO.out,hso,h0];rfl))
     have d:((n1:Int) == 0)=true:=by rw [beq_iff_eq];omega
     clear hso
     go_wp2_with fail
     go_ret
     exact ⟨by rw [HE.out];rfl,HBB.out⟩
    have d0:((n1:Int) == 0)=false:=by rw [beq_eq_false_iff_ne];omega
    have HSO:Hid (serOk ser=true):=Lib.hid (by rw [hso,decide_eq_true (show 0<n1 by omega)])
    have HWT:=Lib.hid (when_any w6 tm)
    clear hso
    go_wp2_with fail
    refine HWT.out.mono ?_
    rintro ex w7 ⟨rfl,rfl⟩
    rcases hwt:whenOk tm with _ | _
    ·have HE:Hid (r=false):=Lib.hid (HNO.out (by rw [HGO.out,hwt];simp))
     clear hwt
     go_wp2_with fail
     go_ret
     exact ⟨by rw [HE.out];rfl,HBB.out⟩
    by_cases hi0:i=0
    ·have d7:decide ((0:Int)<(i:Int))=false:=decide_eq_false (by omega)
     have d8:decide (0<i)=false:=decide_eq_false (by omega)
     have HONE:Hid (gnOk (gone.map Gn.v) i=true):=Lib.hid (by rw [HGO.out,HSO.out,hwt,decide_eq_true hi0];rfl)
     clear hi0 hwt
     go_wp2_with fail
     go_quiet (fail)
     go_wp2_with fail
     go_roundw
     case rel=>exact ⟨i+1,by omega,by go_num,fun j hj=>by
      rcases Nat.lt_or_ge j i with h3 | h3
      ·exact HA.out j h3
      ·obtain rfl:j=i:=by omega
       exact HONE.out,below_drewN HB6.out _⟩
     case measure=>simp [intOf];omega
    ·have d7:decide ((0:Int)<(i:Int))=true:=decide_eq_true (by omega)
     have d8:decide (0<i)=true:=decide_eq_true (by omega)
     have hi1:1≤i:=by omega
     have hxp:=HOX.out w6 HB6.out
     obtain ⟨g',off',eA,hg',hcs'⟩:=hxp.1.2.2 (by rw [HGN.out];omega)
     injection eA with eA
     obtain ⟨rfl,rfl⟩:g=g'∧off=off':=by injection eA with e1 e2;exact ⟨e1,e2⟩
     have p0:=(hcs' (i - 1) (by rw [HGN.out];omega)).1
     have hpe:=hxp.at_ (j:=i - 1) (by rw [HGN.out];omega)
     have HVP:Hid ((gone.map Gn.v).getD (i - 1) default=(gone.getD (i - 1) default).v):=Lib.hid (gv_at (by rw [HGN.out];omega))
     have hpo:=HA.out (i - 1) (by omega)
     obtain ⟨q,hq⟩:∃ q,q=gone.getD (i - 1) default:=⟨_,rfl⟩
     rw [←hq] at p0 hpe HVP
     obtain ⟨pa,pc,pser,ptm⟩:=q
     obtain ⟨pr1,pd1⟩:=hpe
     dsimp only at p0 pr1 pd1
     have hps:serOk pser=true:=by
      unfold gnOk at hpo
      rw [HVP.out] at hpo
      simp only [Gn.v,Bool.and_eq_true] at hpo
      exact hpo.1.1
     have hnp:=(okN_iff.1 (serOk_iff.1 hps).1).2
     have hns:=(okN_iff.1 (serOk_iff.1 HSO.out).1).2
     obtain ⟨n4,hn4⟩:∃ n4,pser.length=n4:=⟨_,rfl⟩
     rw [hn4] at p0
     have HCM:Hid (∀ k,Calls Tryz.prog 30 #[.slice pa n4 pc,.slice ea n1 ec] (w6.drewN k) fun e w'=>e = .returned (.int .i64 (cmpL pser ser))∧∃ m,w'=(w6.drewN k).drewN m):=Lib.hid fun k=>by
      have h:=cmp_any (w6.drewN k) _ _ pa ea pc ec pser ser (pr1.drewN k) ((HRI.out w6 HQ6.out).drewN k) (cmpL pser ser) (by rw [trl_self hnp,trl_self hns])
      rwa [hn4,HN1.out] at h
     have HGZ:Hid (gnOk (gone.map Gn.v) i=decide (cmpL pser ser<0)):=Lib.hid (by rw [HGO.out,HSO.out,hwt,HVP.out,decide_eq_false hi0];rfl)
     obtain ⟨z,hz⟩:∃ z,z=cmpL pser ser:=⟨_,rfl⟩
     rw [←hz] at HCM HGZ
     have k3:=(HK2.out w6 HB6.out).2.2.2.1
     clear hxp hcs' hg' pr1 pd1 hn4 hq hz hi0 eA hps hnp hns hpo hwt HWT
     by_cases hlb:z<0
     ·have hlex3:decide ((0:Int)≤z)=false:=decide_eq_false (by omega)
      have HONE:Hid (gnOk (gone.map Gn.v) i=true):=Lib.hid (by rw [HGZ.out,decide_eq_true hlb])
      clear hlb
      go_wp2_with fail
      go_quiet ((go_at_call 30;exact Calls.quiet_of (HCM.out _)))
      go_wp2_with fail
      go_roundw
      case rel=>exact ⟨i+1,by omega,by go_num,fun j hj=>by
       rcases Nat.lt_or_ge j i with h3 | h3
       ·exact HA.out j h3
       ·obtain rfl:j=i:=by omega
        exact HONE.out,below_drewN HB6.out _⟩
      case measure=>simp [intOf];omega
     ·have HE:Hid (r=false):=Lib.hid (HNO.out (by rw [HGZ.out,decide_eq_false hlb]))
      have hlex3:decide ((0:Int)≤z)=true:=decide_eq_true (by omega)
      clear hlb
      go_wp2_with fail
      go_quiet ((go_at_call 30;exact Calls.quiet_of (HCM.out _)))
      go_wp2_with fail
      go_ret
      exact ⟨by rw [HE.out];rfl,below_drewN HBB.out _⟩
  ·obtain rfl:i=gn:=by omega
   have HE:Hid (r=true):=Lib.hid (by rw [HRG.out];exact gonesOk_iff.2 fun j hj=>HA.out j (by rw [List.length_map,HGN.out] at hj;exact hj))
   have HBB:=Lib.hid (HB2.out.trans (hB.mono HB2.out.size))
   go_wp2_with fail
   go_ret
   exact ⟨by rw [HE.out];rfl,HBB.out⟩
end Go.Proofs.YtcibjcgipfpniaaGreatDoor
namespace Go.Proofs.YtcibjcgipfpniaaGreatDoor
open Go.RowKit
set_option linter.unusedVariables false
set_option linter.unusedSimpArgs false
attribute [local go_sem ↓] Go.wp_at_zero Go.wp_at_succ

set_option maxRecDepth 100000 in
set_option maxHeartbeats 8000000 in
theorem isDn'_any (w:World) (B:Nat) (A:Option Addr) (c n:Nat) (l:List Att) (hn:l.length=n) (hr:RdA w B A c l) (hB:B≤w.heap.size) :
  Calls Tryz.prog 24 #[.slice A n c] w fun e w'=>e = .returned (.bool (dnOk l))∧Below w.heap.size w w':=by
 have hlc:n≤c:=by rw [←hn];exact hr.1
 have hc63:=hr.2.1
 obtain ⟨r,hre⟩:∃ r,dnOk l=r:=⟨_,rfl⟩
 rw [hre]
 have HR:=Lib.hid hre
 have HN:=Lib.hid hn
 have HRD:=Lib.hid hr
 clear hre hn hr
 have hn63:n≤9223372036854775807:=by omega
 go_enter Tryz.func24,Tryz.ntmps24
 go_wp2_with fail
 go_loopw [3] (fun iv wr=>∃ k:Nat,k≤n∧iv = .int .i64 (k:Int)∧Hid (∀ j,j<k→atOk (l.getD j default)=true)∧Below w.heap.size w wr) (fun iv _=>n - (intOf iv).toNat)
 case atStart=>exact ⟨0,by omega,rfl,Lib.hid fun j hj=>by omega,Below.refl _ _⟩
 case round =>
  obtain ⟨k,hk,rfl,HA,hB'⟩:=hrel
  have HB:=Lib.hid hB'
  clear hB'
  by_cases hlt:k<n
  ·obtain ⟨g,off,rfl,hg,hcs⟩:=HRD.out.2.2 (by rw [HN.out];omega)
   obtain ⟨q0,q1⟩:=hcs k (by rw [HN.out];exact hlt)
   have c0:=(HB.out.cell (p:=⟨g,off+k*2,none⟩) (by show g<_;omega)).trans q0
   have c1:=(HB.out.cell (p:=⟨g,off+k*2+1,none⟩) (by show g<_;omega)).trans q1
   obtain ⟨a,ha⟩:∃ a,a=l.getD k default:=⟨_,rfl⟩
   rw [←ha] at c0 c1
   have HAA:=Lib.hid ha
   obtain ⟨kd,s⟩:=a
   dsimp only at c0 c1
   obtain ⟨L,rfl,hoL⟩:=str_all s
   have HOL:=Lib.hid hoL
   clear q0 q1 ha hoL hcs
   rcases hkd:kdOk kd with _ | _
   ·have hf:r=false:=by rw [←HR.out];exact dnOk_no fun h=>by have:=(atOk_iff.1 (h.2.2 k (by rw [HN.out];exact hlt))).1;rw [←HAA.out,hkd] at this;cases this
    have HF:=Lib.hid hf
    have hk4:¬ (kd=3∨kd=6∨kd=10∨kd=11):=of_decide_eq_false hkd
    have n3:(kd != 3)=true:=by simp;omega
    have n6:(kd != 6)=true:=by simp;omega
    have n10:(kd != 10)=true:=by simp;omega
    have n11:(kd != 11)=true:=by simp;omega
    clear hf hkd hk4
    go_wp2_with fail
    go_ret
    rw [HF.out];exact ⟨rfl,HB.out⟩
   have HKD:=Lib.hid hkd
   have hk4:=kd_cases hkd
   clear hkd
   by_cases hem:0<L.length
   case neg =>
    have hf:r=false:=by rw [←HR.out];exact dnOk_no fun h=>by have:=(atOk_iff.1 (h.2.2 k (by rw [HN.out];exact hlt))).2.1;rw [←HAA.out] at this;exact hem (by rwa [bts_str HOL.out] at this)
    have HF:=Lib.hid hf
    have e0:=empty_yes (s:=str L) (by rw [bts_str HOL.out];exact hem)
    clear hf
    rcases hk4 with rfl | rfl | rfl | rfl
    all_goals
     go_wp2_with fail
     go_ret
     rw [HF.out];exact ⟨rfl,HB.out⟩
   have e0:=empty_no (s:=str L) (by rw [bts_str HOL.out];exact hem)
   have HEM:=Lib.hid hem
   clear hem
   obtain ⟨tk,htk⟩:∃ tk,textOk L=tk:=⟨_,rfl⟩
   have HTK:=Lib.hid htk
   have hc:=isText'_any wr L HOL.out
   rw [htk] at hc
   have HC:=Lib.hid hc
   clear htk hc
   have HA2:Hid (tk=true→∀ j,j<k+1→atOk (l.getD j default)=true):=Lib.hid fun ht j hj=>by
    rcases Nat.lt_or_ge j k with h | h
    ·exact HA.out j h
    ·obtain rfl:j=k:=by omega
     rw [←HAA.out]
     exact atOk_iff.2 ⟨HKD.out,by rw [bts_str HOL.out];exact HEM.out,by rw [bts_str HOL.out,HTK.out];exact ht⟩
   have HF2:Hid (tk=false→r=false):=Lib.hid fun ht=>by rw [←HR.out];exact dnOk_no fun h=>by have:=(atOk_iff.1 (h.2.2 k (by rw [HN.out];exact hlt))).2.2;rw [←HAA.out] at this;rw [bts_str HOL.out,HTK.out,ht] at this;cases this
   clear HKD HAA
   rcases hk4 with rfl | rfl | rfl | rfl
   all_goals
    go_wp2_with fail
    refine HC.out.mono ?_
    rintro e w2 ⟨rfl,hb⟩
    have HQ2:=Lib.hid (HB.out.trans (hb.mono HB.out.size))
    clear hb HC
    cases tk
    ·have HF:=Lib.hid (HF2.out rfl)
     go_wp2_with fail
     go_ret
     rw [HF.out];exact ⟨rfl,HQ2.out⟩
    ·have HA3:=Lib.hid (HA2.out rfl)
     go_wp2_with fail
     go_roundw
     case rel=>exact ⟨k+1,by omega,by go_num,HA3,HQ2.out⟩
     case measure=>simp [intOf];omega
  ·obtain rfl:k=n:=by omega
   by_cases h1:1≤k
   case neg =>
    have d1:decide ((1:Int)≤(k:Int))=false:=decide_eq_false (by omega)
    have hf:r=false:=by rw [←HR.out];exact dnOk_no (by rw [HN.out];omega)
    have HF:=Lib.hid hf
    clear hf
    go_wp2_with fail
    go_ret
    rw [HF.out];exact ⟨rfl,HB.out⟩
   have d1:decide ((1:Int)≤(k:Int))=true:=decide_eq_true (by omega)
   by_cases h4:k≤4
   case neg =>
    have d4:decide ((k:Int)≤4)=false:=decide_eq_false (by omega)
    have hf:r=false:=by rw [←HR.out];exact dnOk_no (by rw [HN.out];omega)
    have HF:=Lib.hid hf
    clear hf
    go_wp2_with fail
    go_ret
    rw [HF.out];exact ⟨rfl,HB.out⟩
   have d4:decide ((k:Int)≤4)=true:=decide_eq_true (by omega)
   have hf:r=true:=by rw [←HR.out];exact dnOk_iff.2 ⟨by rw [HN.out];omega,by rw [HN.out];omega,fun i hi=>HA.out i (by rw [HN.out] at hi;exact hi)⟩
   have HF:=Lib.hid hf
   clear hf
   go_wp2_with fail
   go_ret
   rw [HF.out];exact ⟨rfl,HB.out⟩
end Go.Proofs.YtcibjcgipfpniaaGreatDoor
namespace Go.Proofs.YtcibjcgipfpniaaGreatDoor
open Go.RowKit
set_option linter.unusedVariables false
set_option linter.unusedSimpArgs false
attribute [local go_sem ↓] Go.wp_at_zero Go.wp_at_succ

set_option maxRecDepth 100000 in
theorem when'_any (w:World) (t:Int):Calls Tryz.prog 22 #[.int .i64 t] w fun e w'=>e = .returned (.bool (whenOk t))∧w'=w:=by
 rcases h:whenOk t with _ | _
 ·rcases whenOk_no.1 h with h | h
  ·go_enter Tryz.func22,Tryz.ntmps22
   go_wp2_with fail
   go_ret
   exact ⟨rfl,rfl⟩
  ·have hd:decide (t≤253402300799)=false:=decide_eq_false (by omega)
   go_enter Tryz.func22,Tryz.ntmps22
   go_wp2_with fail
   go_ret
   exact ⟨rfl,rfl⟩
 ·obtain ⟨h1,h2⟩:=whenOk_iff.1 h
  go_enter Tryz.func22,Tryz.ntmps22
  go_wp2_with fail
  go_ret
  exact ⟨rfl,rfl⟩
set_option maxRecDepth 100000 in
set_option maxHeartbeats 2000000 in
theorem serial'_any (w:World) (B:Nat) (A:Option Addr) (c n:Nat) (l:List Nat) (hr:Rd .u32 w B A c l) (hn:l.length=n) (hd:Dg l) :
  Calls Tryz.prog 21 #[.slice A n c] w fun e w'=>e = .returned (.bool (serOk l))∧w'=w:=by
 obtain ⟨r,HR⟩:∃ r,Hid (r=serOk l):=⟨_,rfl⟩
 rw [←HR.out]
 rcases hok:okN l with _ | _
 ·have HE:Hid (r=false):=Lib.hid (by rw [HR.out];unfold serOk;rw [hok];simp)
  have HIS:=Lib.hid (is'_at w B A c n l hr hn false hok)
  clear hok hr hn hd
  go_enter Tryz.func21,Tryz.ntmps21
  go_wp2_with fail
  refine HIS.out.mono ?_
  rintro e w2 ⟨rfl,rfl⟩
  go_wp2_with fail
  go_ret
  exact ⟨by rw [HE.out];rfl,rfl⟩
 have HIS:=Lib.hid (is'_at w B A c n l hr hn true hok)
 by_cases h0:n=0
 ·have HE:Hid (r=false):=Lib.hid (by rw [HR.out];unfold serOk;rw [hn,h0];simp)
  have d:decide ((0:Int)<(n:Int))=false:=decide_eq_false (by omega)
  subst h0
  clear hok hr hn hd
  go_enter Tryz.func21,Tryz.ntmps21
  go_wp2_with fail
  refine HIS.out.mono ?_
  rintro e w2 ⟨rfl,rfl⟩
  go_wp2_with fail
  go_ret
  exact ⟨by rw [HE.out];rfl,rfl⟩
 have d:decide ((0:Int)<(n:Int))=true:=decide_eq_true (by omega)
 have h256:=(okN_iff.1 hok).1
 obtain ⟨v,hv⟩:∃ v,nb l=v:=⟨_,rfl⟩
 have HBI:=Lib.hid (bits'_at w B A c n l hr hn hd (by omega) v hv)
 have HE:Hid (r=decide (v<160)):=Lib.hid (by rw [HR.out];unfold serOk;rw [hok,hn,hv,decide_eq_true (show 0<n by omega)];simp)
 clear hok hr hn hd h256 hv
 by_cases h160:v<160
 ·have d2:decide ((v:Int)<(160:Int))=true:=decide_eq_true (by omega)
  go_enter Tryz.func21,Tryz.ntmps21
  go_wp2_with fail
  refine HIS.out.mono ?_
  rintro e w2 ⟨rfl,rfl⟩
  go_wp2_with fail
  refine HBI.out.mono ?_
  rintro e w2 ⟨rfl,rfl⟩
  go_wp2_with fail
  go_ret
  exact ⟨by rw [HE.out,decide_eq_true h160];rfl,rfl⟩
 ·have d2:decide ((v:Int)<(160:Int))=false:=decide_eq_false (by omega)
  go_enter Tryz.func21,Tryz.ntmps21
  go_wp2_with fail
  refine HIS.out.mono ?_
  rintro e w2 ⟨rfl,rfl⟩
  go_wp2_with fail
  refine HBI.out.mono ?_
  rintro e w2 ⟨rfl,rfl⟩
  go_wp2_with fail
  go_ret
  exact ⟨by rw [HE.out,decide_eq_false h160];rfl,rfl⟩
set_option maxRecDepth 100000 in
theorem signed'_any (w:World) (A:Option Addr) (c n:Nat) :
  Calls Tryz.prog 25 #[.slice A n c] w fun e w'=>e = .returned (.bool (decide (1≤n∧n≤600)))∧w'=w:=by
 obtain ⟨r,HR⟩:∃ r,Hid (r=decide (1≤n∧n≤600)):=⟨_,rfl⟩
 rw [←HR.out]
 by_cases h1:1≤n
 case neg =>
  have HE:Hid (r=false):=Lib.hid (by rw [HR.out];exact decide_eq_false (by omega))
  have d:decide ((1:Int)≤(n:Int))=false:=decide_eq_false (by omega)
  go_enter Tryz.func25,Tryz.ntmps25
  go_wp2_with fail
  go_ret
  exact ⟨by rw [HE.out];rfl,rfl⟩
 have d:decide ((1:Int)≤(n:Int))=true:=decide_eq_true (by omega)
 by_cases h6:n≤600
 ·have HE:Hid (r=true):=Lib.hid (by rw [HR.out];exact decide_eq_true ⟨h1,h6⟩)
  have d2:decide ((n:Int)≤(600:Int))=true:=decide_eq_true (by omega)
  go_enter Tryz.func25,Tryz.ntmps25
  go_wp2_with fail
  go_ret
  exact ⟨by rw [HE.out];rfl,rfl⟩
 ·have HE:Hid (r=false):=Lib.hid (by rw [HR.out];exact decide_eq_false (by omega))
  have d2:decide ((n:Int)≤(600:Int))=false:=decide_eq_false (by omega)
  go_enter Tryz.func25,Tryz.ntmps25
  go_wp2_with fail
  go_ret
  exact ⟨by rw [HE.out];rfl,rfl⟩
set_option maxRecDepth 100000 in
set_option maxHeartbeats 16000000 in
theorem crlIs'_any (w:World) (cl:Cl) (h:ClP cl w) :
  Calls Tryz.prog 6 #[.agg (ccell cl).toArray] w fun e w'=>e = .returned (.bool (crlOk cl.v))∧Below w.heap.size w w':=by
 obtain ⟨r,HR⟩:∃ r,Hid (r=crlOk cl.v):=⟨_,rfl⟩
 rw [←HR.out]
 have hoc:=Off.of_c h
 have hq0:Below w.heap.size w (w.alloc (.cells (ccell cl).toArray 26)):=(Below.refl _ _).alloc (Nat.le_refl _) _
 have hH0:=Holds.fresh w 26 (ccell cl).toArray
 obtain ⟨ia,ic,iss,tat,tnx,ga,gc,gone,sa,sc,sig⟩:=cl
 simp only [ccell] at hq0 hH0 ⊢
 obtain ⟨isn,hisn⟩:∃ k,iss.length=k:=⟨_,rfl⟩
 obtain ⟨gn,hgn⟩:∃ k,gone.length=k:=⟨_,rfl⟩
 obtain ⟨sn,hsn⟩:∃ k,sig.length=k:=⟨_,rfl⟩
 have HRV:Hid (r=(dnOk iss && whenOk tat && whenOk tnx && decide (tat≤tnx) && decide (gn≤16) && decide (1≤sn∧sn≤600) && gonesOk (gone.map Gn.v))):=Lib.hid (by
  rw [HR.out]
  unfold crlOk Cl.v
  rw [List.length_map,hgn,hsn])
 clear HR
 rw [hisn,hgn,hsn] at hq0 hH0 ⊢
 obtain ⟨w1,hw1⟩:∃ W,W=w.alloc (.cells #[.slice ia isn ic,.int .i64 tat,.int .i64 tnx,.slice ga gn gc,.slice sa sn sc] 26):=⟨_,rfl⟩
 have hq0':Below w.heap.size w w1:=by rw [hw1];exact hq0
 have hH0':Holds w1 w.heap.size 26 #[.slice ia isn ic,.int .i64 tat,.int .i64 tnx,.slice ga gn gc,.slice sa sn sc]:=by rw [hw1];exact hH0
 have hc1:=hoc.under hq0'
 have HOI:Hid (∀ W,Below w1.heap.size w1 W→Calls Tryz.prog 24 #[.slice ia isn ic] W fun e w'=>e = .returned (.bool (dnOk iss))∧Below W.heap.size W w'):=Lib.hid fun W hW=>isDn'_any W _ ia ic isn iss hisn ((hc1.imp fun _ hh=>hh.1).under hW).at_ (Nat.le_refl _)
 have HX1:Hid (Off [] (GsP ga gc gone) w1):=Lib.hid (hc1.imp fun _ hh=>hh.2.1)
 have HB1:=Lib.hid hq0'
 have HH1:=Lib.hid hH0'
 have HGN:=Lib.hid hgn
 have HW1:=Lib.hid hw1
 have hgc:=hc1.at_.2.1.1.1
 have hgc63:=hc1.at_.2.1.1.2.1
 rw [hgn] at hgc
 clear h hoc hq0 hH0 hq0' hH0' hc1 hisn hgn hsn hw1
 have CALL:Hid (∀ W,Below w1.heap.size w1 W→W.cell? ⟨w.heap.size,0,none⟩=some (.slice ia isn ic)∧W.cell? ⟨w.heap.size,1,none⟩=some (.int .i64 tat)∧W.cell? ⟨w.heap.size,2,none⟩=some (.int .i64 tnx)∧W.cell? ⟨w.heap.size,3,none⟩=some (.slice ga gn gc)∧W.cell? ⟨w.heap.size,4,none⟩=some (.slice sa sn sc)):=Lib.hid fun W hW=>by
  have h:=HH1.out.under hW HH1.out.lt
  exact ⟨h.cell 0,h.cell 1,h.cell 2,h.cell 3,h.cell 4⟩
 have HNO:Hid (∀ i,i<gn→gnOk (gone.map Gn.v) i=false→r=false):=Lib.hid fun i hi h=>by
  rw [HRV.out,gonesOk_no (i:=i) (by rw [List.length_map,HGN.out];exact hi) h,Bool.and_false]
 go_enter Tryz.func6,Tryz.ntmps6
 go_wp2_with fail
 rw [←HW1.out]
 go_loopw [3] (fun iv wr=>∃ i:Nat,i≤gn∧iv = .int .i64 (i:Int)∧Hid (∀ j,j<i→gnOk (gone.map Gn.v) j=true)∧Below w1.heap.size w1 wr) (fun iv _=>gn - (intOf iv).toNat)
 case atStart=>exact ⟨0,by omega,rfl,fun j hj=>by omega,Below.refl _ _⟩
 case round =>
  obtain ⟨i,hi,rfl,HA,hB⟩:=hrel
  obtain ⟨k0,k1,k2,k3,k4⟩:=CALL.out wr hB
  by_cases hlt:i<gn
  ·have hx:=(HX1.out.under hB).at_
   obtain ⟨g,off,rfl,hg,hcs⟩:=hx.1.2.2 (by rw [HGN.out];omega)
   obtain ⟨c0,c1⟩:=hcs i (by rw [HGN.out];exact hlt)
   have hxe:=hx.at_ (by rw [HGN.out];exact hlt)
   have HV:Hid ((gone.map Gn.v).getD i default=(gone.getD i default).v):=Lib.hid (gv_at (by rw [HGN.out];exact hlt))
   obtain ⟨e,he⟩:∃ e,e=gone.getD i default:=⟨_,rfl⟩
   rw [←he] at c0 c1 hxe HV
   clear he hcs
   obtain ⟨ea,ec,ser,tm⟩:=e
   obtain ⟨hr1,hd1⟩:=hxe
   dsimp only at c0 c1 hr1 hd1
   obtain ⟨n1,hn1⟩:∃ n1,ser.length=n1:=⟨_,rfl⟩
   rw [hn1] at c0
   have HN1:=Lib.hid hn1
   have hq1:Below wr.heap.size wr (wr.alloc (.cells #[.slice ea n1 ec,.int .i64 tm] 44)):=(Below.refl _ _).alloc (Nat.le_refl _) _
   have HB2:=Lib.hid (hB.trans (hq1.mono hB.size))
   have hH1:=Holds.fresh wr 44 #[.slice ea n1 ec,.int .i64 tm]
   have z0:=hH1.cell 0
   have z1:=hH1.cell 1
   have hk2:=CALL.out (wr.alloc (.cells #[.slice ea n1 ec,.int .i64 tm] 44)) HB2.out
   have x3:=hk2.2.2.2.1
   have HSE:Hid (∀ k,Calls Tryz.prog 21 #[.slice ea n1 ec] ((wr.alloc (.cells #[.slice ea n1 ec,.int .i64 tm] 44)).drewN k) fun e w'=>e = .returned (.bool (serOk ser))∧w'=(wr.alloc (.cells #[.slice ea n1 ec,.int .i64 tm] 44)).drewN k):=Lib.hid fun k=>serial'_any _ _ ea ec n1 ser ((hr1.under hq1).drewN k) hn1 hd1
   have HWT:Hid (∀ k,Calls Tryz.prog 22 #[.int .i64 tm] ((wr.alloc (.cells #[.slice ea n1 ec,.int .i64 tm] 44)).drewN k) fun e w'=>e = .returned (.bool (whenOk tm))∧w'=(wr.alloc (.cells #[.slice ea n1 ec,.int .i64 tm] 44)).drewN k):=Lib.hid fun k=>when'_any _ tm
   have HOX:Hid (GsP (some ⟨g,off,none⟩) gc gone (wr.alloc (.cells #[.slice ea n1 ec,.int .i64 tm] 44))):=Lib.hid (HX1.out.under HB2.out).at_
   have HRI:=Lib.hid (hr1.under hq1)
   have HGO:Hid (gnOk (gone.map Gn.v) i=(serOk ser && whenOk tm && (decide (i=0) || decide (cmpL ((gone.map Gn.v).getD (i - 1) default).ser ser<0)))):=Lib.hid (gnOk_eq (by rw [HV.out];rfl) (by rw [HV.out];rfl) rfl)
   have HBB:=Lib.hid (HB1.out.trans (HB2.out.mono HB1.out.size))
   clear hx hr1 hn1 hq1 hB hH1 hd1 hk2
   rcases hso:serOk ser with _ | _
   ·have HE:Hid (r=false):=Lib.hid (HNO.out i hlt (by rw [HGO.out,hso];rfl))
    rw [hso] at HSE
    clear hso
    go_wp2_with fail
    go_quiet ((go_at_call 21;exact Calls.quiet_of_same (HSE.out _)))
    go_wp2_with fail
    go_ret
    exact ⟨by rw [HE.out];rfl,below_drewN HBB.out _⟩
   rw [hso] at HSE
   rcases hwt:whenOk tm with _ | _
   ·have HE:Hid (r=false):=Lib.hid (HNO.out i hlt (by rw [HGO.out,hwt];simp))
    rw [hwt] at HWT
    clear hwt hso
    go_wp2_with fail
    go_quiet ((first | (go_at_call 21;exact Calls.quiet_of_same (HSE.out _)) | (go_at_call 22;exact Calls.quiet_of_same (HWT.out _))))
    go_wp2_with fail
    go_ret
    exact ⟨by rw [HE.out];rfl,below_drewN HBB.out _⟩
   rw [hwt] at HWT
   by_cases hi0:i=0
   ·have d7:decide ((0:Int)<(i:Int))=false:=decide_eq_false (by omega)
    have d8:decide (0<i)=false:=decide_eq_false (by omega)
    have HONE:Hid (gnOk (gone.map Gn.v) i=true):=Lib.hid (by rw [HGO.out,hso,hwt,decide_eq_true hi0];rfl)
    clear hi0 hwt hso
    go_wp2_with fail
    go_quiet ((first | (go_at_call 21;exact Calls.quiet_of_same (HSE.out _)) | (go_at_call 22;exact Calls.quiet_of_same (HWT.out _))))
    go_wp2_with fail
    go_roundw
    case rel=>exact ⟨i+1,by omega,by go_num,fun j hj=>by
     rcases Nat.lt_or_ge j i with h3 | h3
     ·exact HA.out j h3
     ·obtain rfl:j=i:=by omega
      exact HONE.out,below_drewN HB2.out _⟩
    case measure=>simp [intOf];omega
   ·have d7:decide ((0:Int)<(i:Int))=true:=decide_eq_true (by omega)
    have d8:decide (0<i)=true:=decide_eq_true (by omega)
    have hi1:1≤i:=by omega
    have hxp:=HOX.out
    obtain ⟨g',off',eA,hg',hcs'⟩:=hxp.1.2.2 (by rw [HGN.out];omega)
    injection eA with eA
    obtain ⟨rfl,rfl⟩:g=g'∧off=off':=by injection eA with e1 e2;exact ⟨e1,e2⟩
    have p0:=(hcs' (i - 1) (by rw [HGN.out];omega)).1
    have hpe:=hxp.at_ (j:=i - 1) (by rw [HGN.out];omega)
    have HVP:Hid ((gone.map Gn.v).getD (i - 1) default=(gone.getD (i - 1) default).v):=Lib.hid (gv_at (by rw [HGN.out];omega))
    obtain ⟨q,hq⟩:∃ q,q=gone.getD (i - 1) default:=⟨_,rfl⟩
    rw [←hq] at p0 hpe HVP
    obtain ⟨pa,pc,pser,ptm⟩:=q
    obtain ⟨pr1,pd1⟩:=hpe
    dsimp only at p0 pr1 pd1
    obtain ⟨n4,hn4⟩:∃ n4,pser.length=n4:=⟨_,rfl⟩
    rw [hn4] at p0
    have HCM:Hid (∀ k,Calls Tryz.prog 23 #[.slice pa n4 pc,.slice ea n1 ec] ((wr.alloc (.cells #[.slice ea n1 ec,.int .i64 tm] 44)).drewN k) fun e w'=>e = .returned (.int .i64 (cmpL pser ser))∧∃ m,w'=((wr.alloc (.cells #[.slice ea n1 ec,.int .i64 tm] 44)).drewN k).drewN m):=Lib.hid fun k=>by
     have h:=cmp'_any ((wr.alloc (.cells #[.slice ea n1 ec,.int .i64 tm] 44)).drewN k) _ _ pa ea pc ec pser ser (pr1.drewN k) (HRI.out.drewN k) (cmpL pser ser) rfl
     rwa [hn4,HN1.out] at h
    have HGZ:Hid (gnOk (gone.map Gn.v) i=decide (cmpL pser ser<0)):=Lib.hid (by rw [HGO.out,hso,hwt,HVP.out,decide_eq_false hi0];rfl)
    obtain ⟨z,hz⟩:∃ z,z=cmpL pser ser:=⟨_,rfl⟩
    rw [←hz] at HCM HGZ
    clear hxp hcs' hg' pr1 pd1 hn4 hq hz hi0 eA hso hwt
    by_cases hlb:z<0
    ·have hlex3:decide ((0:Int)≤z)=false:=decide_eq_false (by omega)
     have HONE:Hid (gnOk (gone.map Gn.v) i=true):=Lib.hid (by rw [HGZ.out,decide_eq_true hlb])
     clear hlb
     go_wp2_with fail
     go_quiet ((first | (go_at_call 21;exact Calls.quiet_of_same (HSE.out _)) | (go_at_call 22;exact Calls.quiet_of_same (HWT.out _)) | (go_at_call 23;exact Calls.quiet_of (HCM.out _))))
     go_wp2_with fail
     go_roundw
     case rel=>exact ⟨i+1,by omega,by go_num,fun j hj=>by
      rcases Nat.lt_or_ge j i with h3 | h3
      ·exact HA.out j h3
      ·obtain rfl:j=i:=by omega
       exact HONE.out,below_drewN HB2.out _⟩
     case measure=>simp [intOf];omega
    ·have HE:Hid (r=false):=Lib.hid (HNO.out i hlt (by rw [HGZ.out,decide_eq_false hlb]))
     have hlex3:decide ((0:Int)≤z)=true:=decide_eq_true (by omega)
     clear hlb
     go_wp2_with fail
     go_quiet ((first | (go_at_call 21;exact Calls.quiet_of_same (HSE.out _)) | (go_at_call 22;exact Calls.quiet_of_same (HWT.out _)) | (go_at_call 23;exact Calls.quiet_of (HCM.out _))))
     go_wp2_with fail
     go_ret
     exact ⟨by rw [HE.out];rfl,below_drewN HBB.out _⟩
  ·obtain rfl:i=gn:=by omega
   have HG:Hid (gonesOk (gone.map Gn.v)=true):=Lib.hid (gonesOk_iff.2 fun j hj=>HA.out j (by rw [List.length_map,HGN.out] at hj;exact hj))
   have HRW:Hid (r=(dnOk iss && whenOk tat && whenOk tnx && decide (tat≤tnx) && decide (i≤16) && decide (1≤sn∧sn≤600))):=Lib.hid (by rw [HRV.out,HG.out,Bool.and_true])
   have HBW:=Lib.hid (HB1.out.trans (hB.mono HB1.out.size))
   have HIW:=Lib.hid (HOI.out wr hB)
   clear HRV HNO HA
   go_wp2_with fail
   refine HIW.out.mono ?_
   rintro e w2 ⟨rfl,hb2⟩
   have HB2:=Lib.hid (HBW.out.trans (hb2.mono HBW.out.size))
   clear k0 k1 k2 k3 k4
   obtain ⟨k0,k1,k2,k3,k4⟩:=CALL.out w2 (hB.trans (hb2.mono hB.size))
   clear hb2 hB
   have HW1:=Lib.hid (when'_any w2 tat)
   have HW2:=Lib.hid (when'_any w2 tnx)
   have HS2:=Lib.hid (signed'_any w2 sa sc sn)
   generalize dnOk iss=b1 at *
   generalize whenOk tat=b2 at *
   generalize whenOk tnx=b3 at *
   cases b1 with
   | false =>
    go_wp2_with fail
    go_ret
    exact ⟨by rw [HRW.out];rfl,HB2.out⟩
   | true =>
   go_wp2_with fail
   refine HW1.out.mono ?_
   rintro e w3 ⟨rfl,rfl⟩
   cases b2 with
   | false =>
    go_wp2_with fail
    go_ret
    exact ⟨by rw [HRW.out];rfl,HB2.out⟩
   | true =>
   go_wp2_with fail
   refine HW2.out.mono ?_
   rintro e w3 ⟨rfl,rfl⟩
   cases b3 with
   | false =>
    go_wp2_with fail
    go_ret
    exact ⟨by rw [HRW.out];rfl,HB2.out⟩
   | true =>
   by_cases hle:tat≤tnx
   case neg =>
    have HE:Hid (r=false):=Lib.hid (by rw [HRW.out,decide_eq_false hle];rfl)
    have d:decide (tat≤tnx)=false:=decide_eq_false hle
    go_wp2_with fail
    go_ret
    exact ⟨by rw [HE.out];rfl,HB2.out⟩
   have dle:decide (tat≤tnx)=true:=decide_eq_true hle
   by_cases h16:i≤16
   case neg =>
    have HE:Hid (r=false):=Lib.hid (by rw [HRW.out,decide_eq_false h16];simp)
    have d:decide ((i:Int)≤(16:Int))=false:=decide_eq_false (by omega)
    go_wp2_with fail
    go_ret
    exact ⟨by rw [HE.out];rfl,HB2.out⟩
   have d16:decide ((i:Int)≤(16:Int))=true:=decide_eq_true (by omega)
   have HE:Hid (r=decide (1≤sn∧sn≤600)):=Lib.hid (by rw [HRW.out,decide_eq_true hle,decide_eq_true h16];rfl)
   go_wp2_with fail
   refine HS2.out.mono ?_
   rintro e w3 ⟨rfl,rfl⟩
   rw [←HE.out]
   go_wp2_with fail
   go_ret
   exact ⟨rfl,HB2.out⟩
end Go.Proofs.YtcibjcgipfpniaaGreatDoor
