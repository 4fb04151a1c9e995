/- Words and laws for the statement, part 9. -/
import Derived.Deep.AppendLies
import Derived.Laws.CopyRow
import Derived.Laws.CopyOwn
import Derived.Test.YtnedpkhehiijhaaGreatQ01
import Derived.Test.YtnedpkhehiijhaaGreatQ05
import Derived.Test.YtnedpkhehiijhaaGreatQ06
import Derived.Test.YtnedpkhehiijhaaGreatQ08
namespace Go.Proofs.YtnedpkhehiijhaaGreat
open Go.RowKit
set_option linter.unusedVariables false

theorem Rd.tail {k:IntKind} {w:World} {B bb off c:Nat} {l:List Nat} (h:Rd k w B (some ⟨bb,off,none⟩) c l) (h0:0<l.length):Rd k w B (some ⟨bb,off+1,none⟩) (c - 1) (l.drop 1):=by
 obtain ⟨b',off',e,hb,hc⟩:=h.2.2 h0
 obtain ⟨rfl,rfl⟩:bb=b'∧off=off':=by injection e with e;injection e with e1 e2;exact ⟨e1,e2⟩
 have h1:=h.1
 have h2:=h.2.1
 refine ⟨by rw [List.length_drop];omega,by omega,fun _=>⟨bb,off+1,rfl,hb,fun j hj=>?_⟩⟩
 rw [List.length_drop] at hj
 rw [show off+1+j=off+(j+1) by omega,hc (j+1) (by omega)]
 simp [List.getD]

theorem enc_oct {s:ByteArray} {z:Nat} {p:List Nat} (hs:s.size≤40) (hz:z≤600) (hp:∀ x∈p,x≤65535):Oct8 (enc s z p):=by
 intro x hx
 obtain ⟨i,_,rfl⟩:=List.mem_map.1 hx
 have h1:(s.data.toList.map UInt8.toNat).getD (i - 1) 0<256:=by
  simp only [List.getD,List.getElem?_map]
  cases s.data.toList[i - 1]? with
  | none=>simp
  | some y=>exact y.toNat_lt
 have h2:p.getD ((i - 43) / 2) 0≤65535:=by
  by_cases h:(i - 43) / 2<p.length
  ·have:=hp _ (List.getElem_mem h)
   simpa [List.getD,h] using this
  ·rw [List.getD,List.getElem?_eq_none (by omega)];exact Nat.zero_le _
 unfold encAt
 repeat (first | omega | split)

theorem info_i64:(Tryz.prog.info? 3).map (fun i=>(i.zero,i.size,i.bytes))=some (some (.int .i64 0),1,8):=by kernel_rfl
theorem get_at (w:World) (B:Nat) (A:Option Addr) (c n:Nat) (l:List Nat) (hn:l.length=n) (hr:Rd .u8 w B A c l) (ho:Oct l) (i:Nat) (I:Int) (hI:I=i) (hi:i+1<n) (v:Nat) (hv:two l i=v) :
  Calls Tryz.prog 69 #[.slice A n c,.int .i64 I] w fun e w'=>e = .returned (.int .i64 v)∧∃ q,w'=w.drewN q:=by
 subst hI
 exact get_any w B A c n l hn hr ho i hi v hv
def RelR (w:World) (s:ByteArray) (v nn:Nat) (b:List Nat) (B bb off c:Nat) (i:Value) (wr:World):Prop :=
 ∃ (k:Nat) (A4:Option Addr) (c4:Nat),k≤nn∧i = .int .i64 k∧Holds wr w.heap.size 70 #[.string s,.int .i64 v,.slice A4 k c4]∧Own .i64 3 wr w.heap.size A4 c4 (placesOf b k)∧Rd .u8 wr B (some ⟨bb,off,none⟩) c b∧Below w.heap.size w wr

set_option maxRecDepth 100000 in
set_option maxHeartbeats 4000000 in
theorem read_deep (w:World) (B:Nat) (A:Option Addr) (c:Nat) (b:List Nat) (hn:b.length=64) (hr:Rd .u8 w B A c b) (hB:B≤w.heap.size) (ho:Oct8 b) (h0:b≠List.replicate 64 0) (hgood:b.getD 0 0≤40∧two b 41≤600) :
  Calls Tryz.prog 35 #[.slice A 64 c] w (ReadPost w b):=by
 have hbel:Below w.heap.size w (w.alloc (.cells #[.string ⟨#[]⟩,.int .i64 0,.slice none 0 0] 70)):=(Below.refl _ _).alloc (Nat.le_refl _) _
 have hbox:=Holds.fresh w 70 #[.string ⟨#[]⟩,.int .i64 0,.slice none 0 0]
 have hr1:=hr.alloc hB (.cells #[.string ⟨#[]⟩,.int .i64 0,.slice none 0 0] 70)
 have hmk:=make_bytes 64 64 rfl (by omega)
 obtain ⟨R,hR0⟩:∃ R,R=List.replicate 64 0:=⟨_,rfl⟩
 have HO0:=Lib.hid (show Oct8 R from fun x hx=>by rw [hR0] at hx;have:=(List.mem_replicate.1 hx).2;omega)
 have HL0:=Lib.hid (show R.length=64 by rw [hR0,List.length_replicate])
 have H0:=Lib.hid h0
 have H1:Hid (b≠R):=Lib.hid (by rw [hR0];exact h0)
 rw [←hR0] at hmk
 clear h0 hR0
 have ho':=oct_of ho
 have hlc:=hr.1
 have hc63:=hr.2.1
 go_enter Tryz.func35,Tryz.ntmps35
 go_wp2_with fail
 have hlt:=hbox.lt
 have hsz:(w.alloc (.cells #[.string ⟨#[]⟩,.int .i64 0,.slice none 0 0] 70)).heap.size=w.heap.size+1:=by simp
 generalize w.alloc (.cells #[.string ⟨#[]⟩,.int .i64 0,.slice none 0 0] 70)=W at *
 have hbox2:=hbox.alloc (.cells (nums .u8 R) 5)
 have hbel2:=hbel.alloc (Nat.le_of_lt hlt) (.cells (nums .u8 R) 5)
 have hz:Row .u8 5 (W.alloc (.cells (nums .u8 R) 5)) W.heap.size R:=Holds.fresh W 5 (nums .u8 R)
 rw [hsz] at hz
 have hr2:=hr1.alloc (by omega) (.cells (nums .u8 R) 5)
 generalize W.alloc (.cells (nums .u8 R) 5)=W2 at *
 refine (equal_noStr _ B _ A (some ⟨w.heap.size+1,0,none⟩) c 64 64 64 b R hn HL0.out hr2 (hz.rd_all HL0.out (by omega)) ho HO0.out H1.out).mono ?_
 rintro e w1 ⟨rfl,rfl⟩
 clear hbox hbel hz hr1 hr hmk
 obtain ⟨bb,off,x,rfl,hb,hx,Hx⟩:=hr2.at_ (i:=0) (by omega)
 rw [Nat.add_zero] at hx
 obtain ⟨v,Hv⟩:∃ v,Hid (two b 41=v):=⟨_,rfl⟩
 rw [Hv.out,←Hx.out] at hgood
 have hx8:x<256:=by rw [Hx.out];exact ho' 0
 clear hlt hsz
 obtain ⟨h40,h600⟩:=hgood
 have b1:decide (40<(x:Int))=false:=decide_eq_false (by omega)
 have b2:decide (600<(v:Int))=false:=decide_eq_false (by omega)
 go_wp2_with fail
 go_quiet ((go_at_call 69;exact quiet_at (get_any _ B (some ⟨bb,off,none⟩) c 64 b hn (hr2.drewN _) ho' 41 (by omega) v Hv.out)))
 have hbox3:=hbox2.drewN nq
 have hbel3:=below_drewNNode2 hbel2 nq
 have hr3:=hr2.drewN nq
 generalize W2.drewN nq=W3 at *
 have hcv:=conv_str (n:=x) ((hr3.tail (by omega)).cut x) (by rw [List.length_take,List.length_drop,hn];omega) (fun y hy=>ho y (List.mem_of_mem_drop (List.mem_of_mem_take hy)))
 have hnm:str ((b.drop 1).take x)=nameOf b x:=rfl
 rw [hnm] at hcv
 obtain ⟨s,Hs⟩:∃ s,Hid (nameOf b x=s):=⟨_,rfl⟩
 rw [Hs.out] at hcv
 have hc:=hbox3.cell
 have hfz:=hbox3.open_
 have hc64:64≤c:=by omega
 clear hnm hbox2 hbel2 hr2 hx b1 b2
 obtain ⟨nn,Hnn⟩:∃ nn:Nat,Hid (needI v=(nn:Int)):=⟨(needI v).toNat,Lib.hid (by have:=needI_ge v;omega)⟩
 have hnn10:nn≤10:=by have h1:=needI_le (z:=v) (by omega);have h2:=Hnn.out;omega
 have hbox4:Holds (((W3.setCell ⟨w.heap.size,0,none⟩ (.string s)).setCell ⟨w.heap.size,1,none⟩ (.int .i64 v)).setCell ⟨w.heap.size,2,none⟩ (.slice none 0 0)) w.heap.size 70 #[.string s,.int .i64 v,.slice none 0 0]:=((hbox3.stored 0 _).stored 1 _).stored 2 _
 have hbel4:Below w.heap.size w (((W3.setCell ⟨w.heap.size,0,none⟩ (.string s)).setCell ⟨w.heap.size,1,none⟩ (.int .i64 v)).setCell ⟨w.heap.size,2,none⟩ (.slice none 0 0)):=by repeat (first | exact hbel3 | refine Below.setCell ?_ (by simp) _)
 have hr4:Rd .u8 (((W3.setCell ⟨w.heap.size,0,none⟩ (.string s)).setCell ⟨w.heap.size,1,none⟩ (.int .i64 v)).setCell ⟨w.heap.size,2,none⟩ (.slice none 0 0)) B (some ⟨bb,off,none⟩) c b:=hr3.under (by repeat (first | exact Below.refl _ _ | refine Below.setCell ?_ (by simp;omega) _))
 go_wp2_with fail
 generalize ((W3.setCell ⟨w.heap.size,0,none⟩ (.string s)).setCell ⟨w.heap.size,1,none⟩ (.int .i64 v)).setCell ⟨w.heap.size,2,none⟩ (.slice none 0 0)=W4 at *
 clear hcv hc hfz hbox3 hbel3 hr3
 refine (need_any W4 v (by omega) nn Hnn.out).mono ?_
 rintro e w5 ⟨rfl,rfl⟩
 go_wp2_with fail
 go_loopw [7,38] (fun _ i wr=>RelR w s v nn b B bb off c i wr) (fun _ i _=>nn - (intOf i).toNat)
 case atStart=>exact ⟨0,none,0,Nat.zero_le _,rfl,hbox4,Own.nil _ _ _ _,hr4,hbel4⟩
 case round =>
  clear hbox4 hr4 hbel4
  obtain ⟨k,A4,c4,hk,rfl,hbox,hown,hrk,hbk⟩:=hrel
  obtain ⟨W5,hW5⟩:∃ W,W=wr:=⟨_,rfl⟩
  subst hW5
  by_cases hkn:k<nn
  case neg =>
   obtain rfl:k=nn:=by omega
   have hf:decide ((k:Int)<(k:Int))=false:=decide_eq_false (by omega)
   have hf2:decide (k<k)=false:=decide_eq_false (by omega)
   have HOne:Hid (∀ s' z' p',IsNode b s' z' p'→s'=s∧z'=v∧p'=placesOf b k):=Lib.hid (fun s' z' p' h=>by
    have e1:=h.long
    have e2:=h.size_
    have e3:=h.count
    have e4:z'=v:=by rw [←e2,Hv.out]
    have e5:=Hnn.out
    rw [e4] at e3
    refine ⟨?_,e4,?_⟩
    ·rw [←Hs.out,Hx.out,e1,h.name_]
    ·rw [←h.places_,show p'.length=k by omega])
   have hltk:=hbox.lt
   have hcb:=hbox.cell
   have hap:=hown.apart hbox (by decide)
   by_cases hok:NodeOk s v ((placesOf b k).map fun x:Nat=>(x:Int))
   case neg =>
    have HNN:Hid (∀ s' z' p',¬ IsNode b s' z' p'):=Lib.hid (fun s' z' p' h=>by
     obtain ⟨rfl,rfl,rfl⟩:=HOne.out s' z' p' h
     exact hok h.ok)
    have hs63:s.size≤9223372036854775807:=by
     rw [←Hs.out];unfold nameOf str;show (Array.size _)≤_;simp;omega
    have HBN:=Lib.hid (bytes_none W5 s hs63 v (by omega) W5.heap.size A4 c4 k _ (by rw [List.length_map,placesOf_length]) (RdI.of_rd hown.rd) (Nat.le_refl _) hok)
    clear hok
    go_wp2_with fail
    refine HBN.out.mono ?_
    rintro e w6 ⟨rfl,hb6⟩
    have hbox6:=hbox.under hb6 hltk
    have hr6:=hrk.under (hb6.mono (by omega))
    have hb6':=hbk.trans (hb6.mono (by omega))
    have hc6:=hbox6.cell
    have hfz6:=hbox6.open_
    go_wp2_with fail
    refine (equal_noStr w6 0 B none (some ⟨bb,off,none⟩) 0 c 0 64 [] b rfl hn (Rd.nil_ _ _ _) hr6 (fun x hx=>by simp at hx) ho (fun e=>by rw [←e] at hn;simp at hn)).mono ?_
    rintro e w7 ⟨rfl,rfl⟩
    go_wp2_with fail
    refine bodyPost_ret (v:=.tuple #[.agg #[.string ⟨#[]⟩,.int .i64 0,.slice none 0 0],.bool false,.bool false]) (by simp [results,Tryz.results35,go_sem,hc6]) rfl ?_
    exact read_none H0.out HNN.out (by repeat (first | exact hb6' | refine Below.setCell ?_ (by simp) _))
   case pos =>
   have HOK:=Lib.hid hok
   have hs40:=hok.name.high
   have HBS:=Lib.hid (bytes_some W5 s v W5.heap.size A4 c4 k (placesOf b k) (placesOf_length b k) hown.rd (Nat.le_refl _) hok (placesOf_le ho k))
   have HEO:Hid (Oct8 (enc s v (placesOf b k))):=Lib.hid (enc_oct hs40 h600 (placesOf_le ho k))
   clear hok
   by_cases heq:enc s v (placesOf b k)=b
   case neg =>
    have HNN:Hid (∀ s' z' p',¬ IsNode b s' z' p'):=Lib.hid (fun s' z' p' h=>by
     obtain ⟨rfl,rfl,rfl⟩:=HOne.out s' z' p' h
     exact heq h.enc)
    go_wp2_with fail
    refine HBS.out.mono ?_
    rintro e w6 ⟨g,rfl,hg,hrow6,hb6⟩
    have hbox6:=hbox.under hb6 hltk
    have hr6:=hrk.under (hb6.mono (by omega))
    have hb6':=hbk.trans (hb6.mono (by omega))
    have hc6:=hbox6.cell
    have hfz6:=hbox6.open_
    go_wp2_with fail
    refine (equal_noStr w6 _ B _ (some ⟨bb,off,none⟩) 64 c 64 64 _ b (enc_length _ _ _) hn (hrow6.rd_all (enc_length _ _ _) (by omega)) hr6 HEO.out ho heq).mono ?_
    rintro e w7 ⟨rfl,rfl⟩
    go_wp2_with fail
    refine bodyPost_ret (v:=.tuple #[.agg #[.string ⟨#[]⟩,.int .i64 0,.slice none 0 0],.bool false,.bool false]) (by simp [results,Tryz.results35,go_sem,hc6]) rfl ?_
    exact read_none H0.out HNN.out (by repeat (first | exact hb6' | refine Below.setCell ?_ (by simp) _))
   case pos =>
    have HEQ:=Lib.hid heq
    go_wp2_with fail
    refine HBS.out.mono ?_
    rintro e w6 ⟨g,rfl,hg,hrow6,hb6⟩
    rw [HEQ.out] at hrow6
    clear heq
    have hbox6:=hbox.under hb6 hltk
    have hr6:=hrk.under (hb6.mono (by omega))
    have hb6':=hbk.trans (hb6.mono (by omega))
    have hown6:=hown.under_all hb6
    have HFRE:Hid (∀ g,blockOf A4=some g→w.heap.size≤g):=Lib.hid fun g hg=>(hown.block hg).1
    have hc6:=hbox6.cell
    have hfz6:=hbox6.open_
    go_wp2_with fail
    refine (equal_yesStr w6 _ B _ (some ⟨bb,off,none⟩) 64 c 64 b hn (hrow6.rd_all hn (by omega)) hr6 ho).mono ?_
    rintro e w7 ⟨rfl,rfl⟩
    go_wp2_with fail
    refine bodyPost_ret (v:=.tuple #[.agg #[.string s,.int .i64 v,.slice A4 k c4],.bool false,.bool true]) (by simp [results,Tryz.results35,go_sem,hc6]) rfl ?_
    refine ⟨s,v,A4,k,c4,placesOf b k,false,true,rfl,Lib.hid (.node ⟨HOK.out,placesOf_le ho k,HEQ.out⟩),placesOf_length b k,Own.rd (B:=w.heap.size) (e:=3) (by repeat (first | exact hown6 | refine Own.aside ?_ hap _)),by repeat (first | exact hb6' | refine Below.setCell ?_ (by simp) _),fun g' hg'=>HFRE.out g' hg'⟩
  case pos =>
  have hk0:(0:Int)≤(k:Int):=by omega
  have hkI:(k:Int)<(nn:Int):=by omega
  obtain ⟨x2,Hx2⟩:∃ x2,Hid (two b (43+2*k)=x2):=⟨_,rfl⟩
  have hcb2:W5.cell? ⟨w.heap.size,2,none⟩=some (.slice A4 k c4):=hbox.cell 2
  have hcb3:∀ n o,((W5.drewN n).alloc o).cell? ⟨w.heap.size,2,none⟩=some (.slice A4 k c4):=fun n o=>((hbox.drewN n).alloc o).cell 2
  have hap:=hown.apart hbox (by decide)
  have HH:Hid (∀ n,Holds ((W5.drewN n).alloc (.cells #[.int .i64 (x2:Int)] 3)) W5.heap.size 3 (nums .i64 [x2])):=Lib.hid (fun n=>Holds.fresh (W5.drewN n) _ _)
  have HPL:=Lib.hid (placesOf_length b k)
  have hszk:=hbk.size
  go_wp2_with fail
  have hw1:IntKind.i64.wrap (2*(k:Int))=2*(k:Int):=IntWalk.i64_in _ (by omega)
  have hw2:IntKind.i64.wrap (43+2*(k:Int))=43+2*(k:Int):=IntWalk.i64_in _ (by omega)
  go_region_law (first
   | (go_simp;go_at_call 69;refine (get_at _ B (some ⟨bb,off,none⟩) c 64 b hn (by exact hrk) ho' (43+2*k) _ (by push_cast;first | rfl | omega) (by omega) x2 Hx2.out).mono ?_;rintro e w6 ⟨rfl,q,rfl⟩;go_simp)
   | (refine step_push _ ?_ (.tmp 42) (.tmp 48) 59 ?_ .i64 w.heap.size 3 8 Tryz.underlying59 info_i64 A4 k c4 (placesOf b k) ?_ HPL.out ?_ W5.heap.size 1 1 [x2] ?_ rfl ?_ (by omega) (by omega) (by omega) ?_ ?_;(focus rfl);(focus rfl);(focus rfl);(focus exact Own.alloc (Own.drewN hown _) _);(focus rfl);(focus exact HH.out _);(focus (simp;omega));intro g1 c1 w2 ho2 hg2 _;have HO2:=Lib.hid ho2;have HG2:=Lib.hid hg2;have hbox6:=((hbox.drewN (1+q)).alloc (.cells #[.int .i64 (x2:Int)] 3)).grown hg2 (Ne.symm hap);have hcc:=hbox6.cell 2;have hff:=hbox6.open_ 2;clear ho2 hg2))
  all_goals
   have hstep:Below w.heap.size W5 w2:=⟨HG2.out.os,HG2.out.tape,HG2.out.output,Nat.le_trans (by simp) HG2.out.size,fun q' hq=>(HG2.out.block q' (by simp;omega) (fun e=>by have:=(hown.block e.symm).1;omega)).trans (Below.heap_alloc (W5.drewN (1+q)) _ q' (by show q' < W5.heap.size;omega))⟩
   have hbox7:Holds (w2.setCell ⟨w.heap.size,2,none⟩ (.slice (some ⟨g1,0,none⟩) (k+1) c1)) w.heap.size 70 #[.string s,.int .i64 v,.slice (some ⟨g1,0,none⟩) (k+1) c1]:=hbox6.stored 2 _
   have hown7:Own .i64 3 (w2.setCell ⟨w.heap.size,2,none⟩ (.slice (some ⟨g1,0,none⟩) (k+1) c1)) w.heap.size (some ⟨g1,0,none⟩) c1 (placesOf b k ++ [x2]):=HO2.out.aside (HO2.out.apart hbox6 (by decide)) _
   have hb7:Below w.heap.size w (w2.setCell ⟨w.heap.size,2,none⟩ (.slice (some ⟨g1,0,none⟩) (k+1) c1)):=(hbk.trans hstep).setCell (by simp) _
   have hr7:Rd .u8 (w2.setCell ⟨w.heap.size,2,none⟩ (.slice (some ⟨g1,0,none⟩) (k+1) c1)) B (some ⟨bb,off,none⟩) c b:=hrk.under ((hstep.mono hB).setCell (by simp;omega) _)
   clear hw1 hw2 hcc hff hbox6
   go_wp2_with fail
   go_roundw
   case rel=>exact ⟨k+1,some ⟨g1,0,none⟩,c1,by omega,by go_num,hbox7,by rw [placesOf_succ,Hx2.out];exact hown7,hr7,hb7⟩
   case measure=>simp [intOf];omega

theorem read_any (w:World) (B:Nat) (A:Option Addr) (c n:Nat) (b:List Nat) (hn:b.length=n) (hr:Rd .u8 w B A c b) (hB:B≤w.heap.size) (ho:Oct8 b) :
  Calls Tryz.prog 35 #[.slice A n c] w (ReadPost w b):=by
 by_cases h64:n=64
 ·subst h64
  by_cases h0:b=List.replicate 64 0
  ·exact read_zero w B A c b hn hr hB ho h0
  ·by_cases hg:b.getD 0 0≤40∧two b 41≤600
   ·exact read_deep w B A c b hn hr hB ho h0 hg
   ·exact read_bad w B A c b hn hr hB ho h0 (by omega)
 ·exact read_other w B A c n b hn hr hB ho h64
end Go.Proofs.YtnedpkhehiijhaaGreat
namespace Go.Proofs.YtnedpkhehiijhaaGreat
open Go.RowKit
set_option linter.unusedVariables false
set_option linter.unusedSimpArgs false

def zNd:Nd:=⟨⟨#[]⟩,0,none,0,[]⟩
theorem ncs_set:∀ (L:List Nd) (k:Nat) (d:Nd),k<L.length→(((ncs L).set (3*k) (.string d.name)).set (3*k+1) (.int .i64 d.size)).set (3*k+2) (.slice d.pa d.pl.length d.pc)=ncs (L.set k d)
 | [],k,d,h=>by simp at h
 | x :: L,0,d,_=>by simp [ncs,List.flatMap_cons,ncell]
 | x :: L,k+1,d,h=>by
  have ih:=ncs_set L k d (by simpa using h)
  have e:ncs (x :: L) = .string x.name :: .int .i64 x.size :: .slice x.pa x.pl.length x.pc :: ncs L:=by simp [ncs,List.flatMap_cons,ncell]
  have e2:ncs ((x :: L).set (k+1) d) = .string x.name :: .int .i64 x.size :: .slice x.pa x.pl.length x.pc :: ncs (L.set k d):=by simp [ncs,List.flatMap_cons,ncell]
  rw [e,e2,←ih,show 3*(k+1)=3*k+1+1+1 by omega,show 3*k+1+1+1+1=(3*k+1)+1+1+1 by omega,show 3*k+1+1+1+2=(3*k+2)+1+1+1 by omega]
  simp only [List.set_cons_succ]
def fillN (ns:List Nd) (k:Nat):List Nd:=ns ++ List.replicate (40 - k) zNd
theorem fillN_len {ns:List Nd} {k:Nat} (h:ns.length=k) (hk:k≤40):(fillN ns k).length=40:=by simp [fillN];omega
theorem fillN_set {ns:List Nd} {k:Nat} (h:ns.length=k) (hk:k<40) (d:Nd):(fillN ns k).set k d=fillN (ns ++ [d]) (k+1):=by
 unfold fillN
 rw [List.set_append_right _ _ (by omega),show 40 - k=(40 - (k+1))+1 by omega,List.replicate_succ,h,Nat.sub_self]
 simp
theorem ncs_stored {ns:List Nd} {k:Nat} (h:ns.length=k) (hk:k<40) (u:Value) (d:Nd) :
  ((((u :: ncs (fillN ns k)).toArray.setIfInBounds (1+3*k) (.string d.name)).setIfInBounds (1+3*k+1) (.int .i64 d.size)).setIfInBounds (1+3*k+2) (.slice d.pa d.pl.length d.pc))=(u :: ncs (fillN (ns ++ [d]) (k+1))).toArray:=by
 rw [←fillN_set h hk,←ncs_set _ _ _ (by rw [fillN_len h (by omega)];exact hk)]
 rw [show 1+3*k=3*k+1 by omega,show 3*k+1+2=3*k+2+1 by omega]
 simp
/-- A sector reads as this node. -/
def NdOf (b:List Nat) (d:Nd):Prop:=∃ z p f,Reads b d.name z p f true∧d.size=(z:Int)∧d.pl=p.map (fun x:Nat=>(x:Int))
def Nd.v (d:Nd):ByteArray×Int×List Int:=(d.name,d.size,d.pl)
theorem NdOf.one {b:List Nat} {d d':Nd} (h:NdOf b d) (h':NdOf b d'):d.v=d'.v:=by
 obtain ⟨z,p,f,hr,e1,e2⟩:=h
 obtain ⟨z',p',f',hr',e1',e2'⟩:=h'
 obtain ⟨h1,h2,h3,_⟩:=hr.one hr'
 unfold Nd.v
 rw [e1,e2,e1',e2',h1,h2,h3]
theorem NdOf.small {b:List Nat} {d:Nd} (h:NdOf b d):d.name.size≤40∧0≤d.size∧d.size≤600:=by
 obtain ⟨z,p,f,hr,e1,e2⟩:=h
 cases hr with
 | free a1 a2 a3 a4=>rw [a1,e1,a2];exact ⟨by show 0≤40;omega,by omega,by omega⟩
 | node hn=>have h1:=hn.ok.name.high;have h2:=hn.ok.z600;have h3:=hn.ok.z0;rw [e1];exact ⟨h1,h3,h2⟩
structure Mounts (s:Dk) (ns:List Nd):Prop where
 n40:ns.length=40
 many:41≤s.many
 rd:∀ i:Nat,i<40→NdOf (s.read (157+(i:Int))) (ns.getD i default)
 room:RoomOk (heldN ns) s.many
theorem vd (l:List Nd) (j:Nat):(l.map Nd.v).getD j default=(l.getD j default).v:=by
 simp only [List.getD,List.getElem?_map]
 cases l[j]? with
 | none=>rfl
 | some d=>rfl
theorem RoomOk.by_v {l l':List Nd} {m:Int} (h:RoomOk l m) (e:l.map Nd.v=l'.map Nd.v):RoomOk l' m:=by
 have hl:l.length=l'.length:=by have:=congrArg List.length e;simpa using this
 have hv:∀ j,(l.getD j default).v=(l'.getD j default).v:=fun j=>by rw [←vd,←vd,e]
 have e1:∀ j,(l'.getD j default).name=(l.getD j default).name:=fun j=>(congrArg (fun q=>q.1) (hv j)).symm
 have e2:∀ j,(l'.getD j default).size=(l.getD j default).size:=fun j=>(congrArg (fun q=>q.2.1) (hv j)).symm
 have e3:∀ j,(l'.getD j default).pl=(l.getD j default).pl:=fun j=>(congrArg (fun q=>q.2.2) (hv j)).symm
 have eh:∀ x k,hasL l' x k→hasL l x k:=fun x k ⟨j,i,h1,h2,h3,h4⟩=>⟨j,i,h1,by omega,by rw [←e3];exact h3,by rw [←e3];exact h4⟩
 refine ⟨by rw [←hl];exact h.len,h.m0,h.m1,⟨fun j hj=>?_,fun j i hj hi=>?_,fun j i hi hj=>?_⟩⟩
 ·rw [e1,e2,e3];exact h.all.node j (by omega)
 ·rw [e3] at hi
  rw [e3]
  exact ⟨(h.all.rng j i (by omega) hi).1,(h.all.rng j i (by omega) hi).2.1,fun hh=>(h.all.rng j i (by omega) hi).2.2 (eh _ _ hh)⟩
 ·rw [e1,e1];exact h.all.names j i hi (by omega)
theorem heldN_v (ns:List Nd):(heldN ns).map Nd.v=(ns.map Nd.v).filter (fun q=>!(q.1.toList == (⟨#[]⟩:ByteArray).toList)):=by
 unfold heldN
 rw [List.filter_map]
 rfl
theorem Mounts.one {s:Dk} {ns ns':List Nd} (h:Mounts s ns) (hl:ns'.length=40) (hr:∀ i:Nat,i<40→NdOf (s.read (157+(i:Int))) (ns'.getD i default)):ns.map Nd.v=ns'.map Nd.v:=by
 apply List.ext_getElem
 ·simp [h.n40,hl]
 ·intro i h1 h2
  simp only [List.getElem_map]
  have hi:i<40:=by simpa [h.n40] using h1
  have a:=h.rd i hi
  have b:=hr i hi
  have ea:ns.getD i default=ns[i]'(by rw [h.n40];exact hi):=by simp [List.getD,h.n40,hi]
  have eb:ns'.getD i default=ns'[i]'(by rw [hl];exact hi):=by simp [List.getD,hl,hi]
  rw [ea] at a
  rw [eb] at b
  exact a.one b
theorem Mounts.by {s:Dk} {ns ns':List Nd} (h:Mounts s ns) (hl:ns'.length=40) (hr:∀ i:Nat,i<40→NdOf (s.read (157+(i:Int))) (ns'.getD i default)):Mounts s ns' :=
 ⟨hl,h.many,hr,h.room.by_v (by rw [heldN_v,heldN_v,h.one hl hr])⟩
/-- What Mount answers, the disk open. -/
def MPost (w:World) (F:Nat→Prop) (gd:Nat) (s:Dk) (e:Ending) (w':World):Prop :=
 ∃ B,w.heap.size≤B∧B≤w'.heap.size∧Disk w' (fun k=>F k∨(w.heap.size≤k∧k<B)) gd s∧Only F w w' ∧
  ((e = .returned (.tuple #[.pointer none,.int .i64 13])∧∀ ns,¬ Mounts s ns) ∨
   ∃ gf ns,e = .returned (.tuple #[.pointer (some ⟨gf,0,none⟩),.int .i64 0])∧FsAt w' gf gd ns∧B≤gf∧(∀ d∈ns,∀ g,blockOf d.pa=some g→B≤g∧g≠gf)∧Mounts s ns)
end Go.Proofs.YtnedpkhehiijhaaGreat
namespace Go.Proofs.YtnedpkhehiijhaaGreat
open Go.RowKit
set_option linter.unusedVariables false
set_option linter.unusedSimpArgs false
attribute [local go_sem ↓] Go.wp_at_zero Go.wp_at_succ

def MountP (w:World) (F:Nat→Prop) (gd:Nat) (s:Dk) (e:Ending) (w':World):Prop :=
 ((s.open_).2≠0∧e = .returned (.tuple #[.pointer none,.int .i64 ((s.open_).2:Nat)])∧DJ w F gd (s.open_).1 w')∨((s.open_).2=0∧MPost w F gd (s.open_).1 e w')
def RelM (w:World) (gd:Nat) (s:Dk) (si:Value) (wr:World):Prop :=
 ∃ (k:Nat) (ns:List Nd),k≤40∧si = .int .i64 (k:Int)∧ns.length=k∧(∀ i:Nat,i<k→NdOf (s.read (157+(i:Int))) (ns.getD i default))∧Holds wr w.heap.size 73 (.pointer (some ⟨gd,0,none⟩) :: ncs (fillN ns k)).toArray ∧
  (∀ d∈ns,RdI .i64 wr wr.heap.size d.pa d.pc d.pl∧∀ g,blockOf d.pa=some g→w.heap.size<g)∧Below w.heap.size w wr
theorem RdI.on {k:IntKind} {w w':World} {B:Nat} {A:Option Addr} {c:Nat} {l:List Int} (h:RdI k w B A c l) (hk:∀ g,blockOf A=some g→w'.heap[g]?=w.heap[g]?):RdI k w' B A c l :=
 ⟨h.1,h.2.1,fun hn=>by
  obtain ⟨b,off,e,hb,hc⟩:=h.2.2 hn
  refine ⟨b,off,e,hb,fun j hj=>?_⟩
  rw [←hc j hj]
  have:=hk b (by rw [e];rfl)
  simp only [World.cell?,this]⟩
theorem heldN_small {s:Dk} {ns:List Nd} {n:Nat} (hl:ns.length=40) (hr:∀ i:Nat,i<40→NdOf (s.read (157+(i:Int))) (ns.getD i default)) :
  ∀ j,j<n→((heldN ns).getD j default).name.size≤9223372036854775807∧((heldN ns).getD j default).size≤9223372036854775807:=fun j _=>by
 by_cases h:j<(heldN ns).length
 ·have hm:(heldN ns)[j]∈ns:=(List.mem_filter.1 (List.getElem_mem h)).1
  obtain ⟨i,hi,e⟩:=List.getElem_of_mem hm
  have e2:(heldN ns).getD j default=ns.getD i default:=by simp [List.getD,h,hi,e]
  have:=(hr i (by omega)).small
  rw [e2]
  omega
 ·rw [show (heldN ns).getD j default=default by rw [List.getD,List.getElem?_eq_none (by omega)];rfl]
  exact ⟨by show 0≤_;omega,by show (0:Int)≤_;omega⟩
section
variable {w:World} {F:Nat→Prop} {gd:Nat} {s:Dk}
set_option maxRecDepth 100000 in
set_option maxHeartbeats 16000000 in
theorem mount_any (h:Disk w F gd s) (hoc:∀ i:Nat,Oct1 (s.read (i:Int))) (hoc2:∀ i:Int,Oct1 ((s.open_).1.read i)) (hwl:s.waits.length≤70000) (hops:s.ops≤700000000) :
  Calls Tryz.prog 10 #[.pointer (some ⟨gd,0,none⟩)] w (MountP w F gd s):=by
 have HOP:=Lib.hid (open_any h hoc hwl hops)
 unfold MountP
 rcases hq:s.open_ with ⟨s',c⟩
 rw [hq] at HOP hoc2
 dsimp only at HOP hoc2 ⊢
 clear hq h hoc hwl hops
 by_cases hc:c=0
 case neg =>
  have d0:((c:Int) == 0)=false:=by rw [beq_eq_false_iff_ne];omega
  go_enter Tryz.func10,Tryz.ntmps10
  go_wp2_with (first | (refine HOP.out.mono ?_;rintro e w1 ⟨rfl,hd1⟩) | fail)
  go_ret2
  exact .inl ⟨hc,rfl,hd1⟩
 case pos =>
  subst hc
  have HJM:Hid (∀ (W:World) (F1:Nat→Prop),Disk W F1 gd s'→Calls Tryz.prog 34 #[.pointer (some ⟨gd,0,none⟩)] W fun e w'=>e = .returned (.int .i64 (s'.many:Int))∧W=w'):=Lib.hid fun W F1 h1=>jmany h1
  have HJR:Hid (∀ (W:World) (F1:Nat→Prop) (k:Nat),Disk W F1 gd s'→k<s'.many→Calls Tryz.prog 36 #[.pointer (some ⟨gd,0,none⟩),.int .i64 (k:Int)] W fun e w'=>∃ A n c,e = .returned (.slice A n c)∧(s'.read (157+(k:Int))).length=n∧Rd .u8 w' w'.heap.size A c (s'.read (157+(k:Int)))∧Below W.heap.size W w'):=Lib.hid fun W F1 k h1 hk=>by
   have:=jread h1 (k:Int)
   rw [if_pos ⟨by omega,by omega⟩] at this
   exact this
  have HOC:=Lib.hid hoc2
  clear hoc2
  by_cases hm:s'.many<41
  case pos =>
   have HNO:Hid (∀ ns,¬ Mounts s' ns):=Lib.hid fun ns hM=>by have:=hM.many;omega
   generalize s'.many=m at *
   have d0:decide ((m:Int)<41)=true:=decide_eq_true (by omega)
   have hmI:(m:Int)<41:=by omega
   go_enter Tryz.func10,Tryz.ntmps10
   go_wp2_with (first | (refine HOP.out.mono ?_;rintro e w1 ⟨rfl,hd1⟩) | (refine (HJM.out _ _ hd1.1).mono ?_;rintro e w1 ⟨rfl,rfl⟩) | fail)
   go_ret2
   exact .inr ⟨trivial,w1.heap.size,hd1.2.size,Nat.le_refl _,hd1.1,hd1.2,.inl ⟨rfl,HNO.out⟩⟩
  case neg =>
   have HM41:Hid (41≤s'.many):=Lib.hid (by omega)
   have HJM2:Hid (∀ (W:World) (F1:Nat→Prop),Disk W F1 gd s'→Calls Tryz.prog 34 #[.pointer (some ⟨gd,0,none⟩)] W fun e w'=>e = .returned (.int .i64 (s'.many:Int))∧W=w'):=HJM
   obtain ⟨m,hmm⟩:∃ m,m=s'.many:=⟨_,rfl⟩
   rw [←hmm] at HJM hm
   have HMM:=Lib.hid hmm
   clear hmm
   have d0:decide ((m:Int)<41)=false:=decide_eq_false (by omega)
   have hmI:¬ ((m:Int)<41):=by omega
   go_enter Tryz.func10,Tryz.ntmps10
   go_wp2_with (first | (refine HOP.out.mono ?_;rintro e w1 ⟨rfl,hd1⟩) | (refine (HJM.out _ _ hd1.1).mono ?_;rintro e w2 ⟨rfl,rfl⟩) | fail)
   have HD1:=Lib.hid hd1
   clear hd1
   go_loopw [21] (fun si wr=>RelM w1 gd s' si wr) (fun si _=>40 - (intOf si).toNat)
   case atStart=>exact ⟨0,[],by omega,rfl,rfl,(fun i hi=>by omega),Holds.fresh _ _ (.pointer (some ⟨gd,0,none⟩) :: ncs (fillN [] 0)).toArray,(fun d hd=>by simp at hd),(Below.refl _ _).alloc (Nat.le_refl _) _⟩
   case round =>
    obtain ⟨k,ns,hk,rfl,hnl,hnd,hbox,hrd,hq⟩:=hrel
    obtain ⟨V,hV⟩:∃ V,V=wr:=⟨_,rfl⟩
    subst hV
    have HDV:Hid (Disk V (grow F w w1) gd s'):=Lib.hid (HD1.out.1.keep (Only.of_below (F:=fun _=>False) hq) (fun _ _ e=>e))
    have HBOX:=Lib.hid hbox
    have HRD:=Lib.hid hrd
    have HND:=Lib.hid hnd
    have HNL:=Lib.hid hnl
    have HQ:=Lib.hid hq
    clear hrd hnd hq hnl
    by_cases hlt:k<40
    case pos =>
     have hkI:(k:Int)<40:=by omega
     have hk0:(0:Int)≤(k:Int):=by omega
     have hkw:IntKind.i64.wrap ((k:Int)+1)=(k:Int)+1:=IntWalk.i64_in _ (by omega)
     have hkm:k<s'.many:=by have:=HM41.out;omega
     clear hbox
     go_wp2_with fail
     refine (HJR.out V _ k HDV.out hkm).mono ?_
     rintro e V1 ⟨A,n,c,rfl,hn,hr,hb1⟩
     have HRA:=Lib.hid (read_any V1 V1.heap.size A c n _ hn hr (Nat.le_refl _) (HOC.out _))
     have HB1:=Lib.hid hb1
     clear hn hr hb1
     go_wp2_with fail
     refine HRA.out.mono ?_
     rintro e V2 ⟨nm,z,A2,n2,c2,p,f,o,rfl,hR,hpn,hrp,hb2,hfre⟩
     have HB2:=Lib.hid (HB1.out.trans (hb2.mono HB1.out.size))
     have HPN:=Lib.hid hpn
     have HRP:=Lib.hid hrp
     have HFRE:=Lib.hid hfre
     clear hb2 hpn hrp hfre HRA
     cases o with
     | false =>
      have HNO:Hid (∀ ns,¬ Mounts s' ns):=Lib.hid fun ns hM=>by
       obtain ⟨z',p',f',hr',_⟩:=hM.rd k hlt
       have:=(hR.out.one hr').2.2.2.2
       cases this
      have HD2:Hid (Disk (V2.alloc (.cells #[.string nm,.int .i64 (z:Int),.slice A2 n2 c2] 70)) (grow F w w1) gd s'∧Below w1.heap.size w1 (V2.alloc (.cells #[.string nm,.int .i64 (z:Int),.slice A2 n2 c2] 70))):=Lib.hid (by
       have hb3:Below V.heap.size V (V2.alloc (.cells #[.string nm,.int .i64 (z:Int),.slice A2 n2 c2] 70)):=HB2.out.alloc HB2.out.size _
       exact ⟨HDV.out.keep (Only.of_below (F:=fun _=>False) hb3) (fun _ _ e=>e),HQ.out.trans (hb3.mono HQ.out.size)⟩)
      go_wp2_with fail
      go_ret2
      exact .inr ⟨trivial,w1.heap.size,HD1.out.2.size,HD2.out.2.size,HD2.out.1,HD1.out.2.trans (Only.of_below (F:=fun _=>False) HD2.out.2) (fun _ _ e=>e.elim),.inl ⟨rfl,HNO.out⟩⟩
     | true =>
      obtain ⟨V3,hV3⟩:∃ V3,V3=V2.alloc (.cells #[.string nm,.int .i64 (z:Int),.slice A2 n2 c2] 70):=⟨_,rfl⟩
      have HV3:=Lib.hid hV3
      have hh3:Holds V3 V2.heap.size 70 #[.string nm,.int .i64 (z:Int),.slice A2 n2 c2]:=by rw [hV3];exact Holds.fresh _ _ _
      have hb3:Below V.heap.size V V3:=by rw [hV3];exact HB2.out.alloc HB2.out.size _
      have HB3:=Lib.hid hb3
      have HD3:Hid (Disk V3 (grow F w w1) gd s'):=Lib.hid (HDV.out.keep (Only.of_below (F:=fun _=>False) hb3) (fun _ _ e=>e))
      have HBX3:Hid (Holds V3 w1.heap.size 73 (.pointer (some ⟨gd,0,none⟩) :: ncs (fillN ns k)).toArray):=Lib.hid (HBOX.out.under hb3 HBOX.out.lt)
      have c0:V3.cell? ⟨V2.heap.size,0,none⟩=some (.string nm):=hh3.cell 0
      have c1:V3.cell? ⟨V2.heap.size,1,none⟩=some (.int .i64 (z:Int)):=hh3.cell 1
      have c2':V3.cell? ⟨V2.heap.size,2,none⟩=some (.slice A2 n2 c2):=hh3.cell 2
      clear hb3 hV3
      go_wp2_with fail
      rw [←HV3.out]
      have HQ3:Hid (Below w1.heap.size w1 V3.drew):=Lib.hid (HQ.out.trans (HB3.out.mono HQ.out.size)).drew
      have HH3:=Lib.hid hh3
      have HNE:Hid (V2.heap.size≠w1.heap.size):=Lib.hid (by have h1:=HBOX.out.lt;have h2:=HB2.out.size;omega)
      have HB23:Hid (Below V2.heap.size V2 V3):=Lib.hid (by rw [HV3.out];exact (Below.refl _ _).alloc (Nat.le_refl _) _)
      have HTH:Hid (∀ W:World,W.heap=V3.heap→W.there w1.heap.size (1+k*3) 3):=Lib.hid fun W e j hj=>by
       have hh:Holds W w1.heap.size 73 (.pointer (some ⟨gd,0,none⟩) :: ncs (fillN ns k)).toArray:=(congrArg (fun h:Array Obj=>h[w1.heap.size]?) e).trans HBX3.out
       refine ⟨?_,hh.open_ _⟩
       rw [hh.cell]
       have hl:=ncs_len (fillN ns k)
       rw [fillN_len HNL.out (by omega)] at hl
       simp
       omega
      refine wp_region_noPanic ?_
      refine wp_region_held_drew (S:=fun W=>Below w1.heap.size w1 W∧Holds W V2.heap.size 70 #[.string nm,.int .i64 (z:Int),.slice A2 n2 c2]) (by kernel_rfl) (⟨HQ3.out,HH3.out⟩) (fun hHeld=>?_)
      refine wpAnyH_take (i:=0) (oi:={ dst:=some 34,op:=Op.move (Operand.tmp 5),type:=27,pos:=_,after:=_,guard:=none }) (v:=?_) rfl (by kernel_rfl) (by kernel_rfl) (by kernel_rfl) (fun _ _ _ h=>h) (Or.inl ⟨by rfl,?_⟩) hHeld ?_
      rotate_left 1
      ·(intro W hW;(try dsimp only at hW);go_simp;try with_reducible rfl)
      try simp only [Act.put,List.setIfInBounds_toArray,List.set_cons_zero,List.set_cons_succ]
      refine wpAnyH_take (i:=1) (oi:={ dst:=some 35,op:=Op.move (Operand.tmp 6),type:=3,pos:=_,after:=_,guard:=none }) (v:=?_) rfl (by kernel_rfl) (by kernel_rfl) (by kernel_rfl) (fun _ _ _ h=>h) (Or.inl ⟨by rfl,?_⟩) hHeld ?_
      rotate_left 1
      ·(intro W hW;(try dsimp only at hW);go_simp;try with_reducible rfl)
      try simp only [Act.put,List.setIfInBounds_toArray,List.set_cons_zero,List.set_cons_succ]
      refine wpAnyH_take (i:=2) (oi:={ dst:=some 36,op:=Op.load 70 (Operand.tmp 7),type:=70,pos:=_,after:=_,guard:=none }) (v:=?_) rfl (by kernel_rfl) (by kernel_rfl) (by kernel_rfl) (fun _ _ _ h=>h) (Or.inl ⟨by rfl,?_⟩) hHeld ?_
      rotate_left 1
      ·(intro W hW;have k0:=hW.2.cell 0;have k1:=hW.2.cell 1;have k2:=hW.2.cell 2;(try dsimp only at hW);go_simp;try with_reducible rfl)
      try simp only [Act.put,List.setIfInBounds_toArray,List.set_cons_zero,List.set_cons_succ]
      refine wpAnyH_take (i:=3) (oi:={ dst:=some 37,op:=Op.nilCheck (Operand.tmp 34),type:=0,pos:=_,after:=_,guard:=none }) (v:=?_) rfl (by kernel_rfl) (by kernel_rfl) (by kernel_rfl) (fun _ _ _ h=>h) (Or.inl ⟨by rfl,?_⟩) hHeld ?_
      rotate_left 1
      ·(intro W hW;(try dsimp only at hW);go_simp;try with_reducible rfl)
      try simp only [Act.put,List.setIfInBounds_toArray,List.set_cons_zero,List.set_cons_succ]
      refine wpAnyH_take (i:=4) (oi:={ dst:=some 38,op:=Op.fieldAddr 73 (Operand.tmp 37) 1,type:=0,pos:=_,after:=_,guard:=none }) (v:=?_) rfl (by kernel_rfl) (by kernel_rfl) (by kernel_rfl) (fun _ _ _ h=>h) (Or.inl ⟨by rfl,?_⟩) hHeld ?_
      rotate_left 1
      ·(intro W hW;(try dsimp only at hW);go_simp;try with_reducible rfl)
      try simp only [Act.put,List.setIfInBounds_toArray,List.set_cons_zero,List.set_cons_succ]
      refine wpAnyH_take (i:=5) (oi:={ dst:=some 39,op:=Op.indexAddr 71 (Operand.tmp 38) (Operand.tmp 35),type:=0,pos:=_,after:=_,guard:=none }) (v:=?_) rfl (by kernel_rfl) (by kernel_rfl) (by kernel_rfl) (fun _ _ _ h=>h) (Or.inl ⟨by rfl,?_⟩) hHeld ?_
      rotate_left 1
      ·(intro W hW;(try dsimp only at hW);go_simp;try with_reducible rfl)
      try simp only [Act.put,List.setIfInBounds_toArray,List.set_cons_zero,List.set_cons_succ]
      refine wpAnyH_ready (rs:=[6]) (by kernel_rfl) (by simp) ?_
      refine AllReadyH.cons (o:={ dst:=none,op:=Op.store 70 (Operand.tmp 39) (Operand.tmp 36),type:=0,pos:=_,after:=_,guard:=none }) rfl (fun K hK=>?_) AllReadyH.nil
      rw [if_pos (by rfl)]
      refine wp_store_mid (P:=Tryz.prog) _ _ _ rfl w1.heap.size (1+k*3) #[.string nm,.int .i64 (z:Int),.slice A2 n2 c2] rfl rfl (HTH.out _ rfl) size_node (all_oneCell_toArray (by intro u hu;simp at hu;rcases hu with rfl | rfl | rfl <;> rfl)) ?_
      generalize hV5:World.setCells _ _ _ _=V5
      have HV5:Hid (V5=V3.drew.setCells w1.heap.size (1+k*3) [.string nm,.int .i64 (z:Int),.slice A2 n2 c2]):=Lib.hid hV5.symm
      clear hV5
      have HBX5:Hid (Holds V5 w1.heap.size 73 (.pointer (some ⟨gd,0,none⟩) :: ncs (fillN (ns ++ [⟨nm,(z:Int),A2,c2,p.map fun x:Nat=>(x:Int)⟩]) (k+1))).toArray):=Lib.hid (by
       have hh:Holds V3.drew w1.heap.size 73 (.pointer (some ⟨gd,0,none⟩) :: ncs (fillN ns k)).toArray:=HBX3.out
       have hs:=((hh.stored (1+3*k) (.string nm)).stored (1+3*k+1) (.int .i64 (z:Int))).stored (1+3*k+2) (.slice A2 n2 c2)
       have e:=ncs_stored HNL.out hlt (.pointer (some ⟨gd,0,none⟩)) ⟨nm,(z:Int),A2,c2,p.map fun x:Nat=>(x:Int)⟩
       dsimp only at e
       rw [List.length_map,HPN.out] at e
       rw [e] at hs
       rw [HV5.out,show 1+k*3=1+3*k by omega]
       exact hs)
      have HK5:Hid (∀ g,g≠w1.heap.size→V5.heap[g]?=V3.heap[g]?):=Lib.hid fun g hg=>by rw [HV5.out];exact setCells_aside hg _ _ _
      have HZ5:Hid (V5.heap.size=V3.heap.size):=Lib.hid (by rw [HV5.out];exact setCells_size _ _ _ _)
      have HQ5:Hid (Below w1.heap.size w1 V5):=Lib.hid (by rw [HV5.out];exact (((HQ3.out.setCell (p:=⟨w1.heap.size,1+k*3,none⟩) (Nat.le_refl _) _).setCell (p:=⟨w1.heap.size,1+k*3+1,none⟩) (Nat.le_refl _) _).setCell (p:=⟨w1.heap.size,1+k*3+1+1,none⟩) (Nat.le_refl _) _))
      have HS5:Hid (Below w1.heap.size w1 V5∧Holds V5 V2.heap.size 70 #[.string nm,.int .i64 (z:Int),.slice A2 n2 c2]):=Lib.hid ⟨HQ5.out,(HK5.out _ HNE.out).trans HH3.out⟩
      refine hK.out _ _ (HS5.out) (fun _=>?_)
      clear hK K hHeld
      try simp only [Act.put,List.setIfInBounds_toArray,List.set_cons_zero,List.set_cons_succ]
      have hHeld:(fun W=>Below w1.heap.size w1 W∧Holds W V2.heap.size 70 #[.string nm,.int .i64 (z:Int),.slice A2 n2 c2]) V5:=HS5.out
      refine wpAnyH_done (by kernel_rfl) ?_ _
      refine NoPanic.normal ?_
      go_simp
      go_wp2_with fail
      go_roundw
      case rel =>
       refine ⟨k+1,ns ++ [⟨nm,(z:Int),A2,c2,p.map fun x:Nat=>(x:Int)⟩],by omega,by go_num,by rw [List.length_append,HNL.out];rfl,fun i hi=>?_,HBX5.out,fun d hd=>?_,HQ5.out⟩
       ·by_cases hik:i<k
        ·rw [show (ns ++ [(⟨nm,(z:Int),A2,c2,p.map fun x:Nat=>(x:Int)⟩:Nd)]).getD i default=ns.getD i default by simp [List.getD,List.getElem?_append_left,HNL.out,hik]]
         exact HND.out i hik
        ·obtain rfl:i=k:=by omega
         rw [show (ns ++ [(⟨nm,(z:Int),A2,c2,p.map fun x:Nat=>(x:Int)⟩:Nd)]).getD i default=⟨nm,(z:Int),A2,c2,p.map fun x:Nat=>(x:Int)⟩ by rw [←HNL.out];simp [List.getD]]
         exact ⟨z,p,f,hR.out,rfl,rfl⟩
       ·have hz3:=HB3.out.size
        rcases List.mem_append.1 hd with hd | hd
        ·have h1:=HRD.out d hd
         refine ⟨(((h1.1.under HB3.out).more hz3).on fun g hg=>HK5.out g (by have:=h1.2 g hg;omega)).more (by rw [HZ5.out];exact Nat.le_refl _),h1.2⟩
        ·obtain rfl:=List.mem_singleton.1 hd
         have hf:=HFRE.out
         have h5:∀ g,blockOf A2=some g→w1.heap.size<g:=fun g hg=>by have h1:=hf g hg;have h2:=HB1.out.size;have h3:=HBOX.out.lt;omega
         refine ⟨(((RdI.of_rd HRP.out).under HB23.out).more HB23.out.size |>.on fun g hg=>HK5.out g (by have:=h5 g hg;omega)).more (by rw [HZ5.out];exact Nat.le_refl _),h5⟩
      case measure=>simp [intOf];omega
    case neg =>
     obtain rfl:k=40:=by omega
     have hkI:¬ (((40:Nat):Int)<40):=by omega
     have hfl:fillN ns 40=ns:=by unfold fillN;simp
     rw [hfl] at hbox
     have HFS:Hid (FsAt V w1.heap.size gd ns):=Lib.hid ⟨HNL.out,hbox,fun d hd=>(HRD.out d hd).1⟩
     have HLT:=Lib.hid hbox.lt
     have HHE:=Lib.hid (held_any V w1.heap.size gd ns HFS.out)
     clear hbox hfl HBOX
     go_wp2_with fail
     refine HHE.out.mono ?_
     rintro e V6 ⟨A6,n6,c6,rfl,hn6,hr6,hb6⟩
     have HD6:Hid (Disk V6 (grow F w w1) gd s'):=Lib.hid (HDV.out.keep (Only.of_below (F:=fun _=>False) hb6) (fun _ _ e=>e))
     have HB6:=Lib.hid hb6
     by_cases hok:RoomOk (heldN ns) (m:Int)
     ·have HRM:=Lib.hid (room_any V6 A6 c6 n6 (heldN ns) hn6 hr6 (heldN_small HNL.out HND.out) (m:Int) true ⟨fun _=>hok,fun _=>rfl⟩)
      clear hn6 hr6 hb6
      have HOK:=Lib.hid hok
      clear hok
      go_wp2_with (first | (refine (HJM.out _ _ HD6.out).mono ?_;rintro e w2 ⟨rfl,rfl⟩) | (refine HRM.out.mono ?_;rintro e V7 ⟨rfl,hb7⟩) | fail)
      go_ret2
      have hb67:=HB6.out.trans (hb7.mono HB6.out.size)
      exact .inr ⟨trivial,w1.heap.size,HD1.out.2.size,Nat.le_trans HQ.out.size hb67.size,HDV.out.keep (Only.of_below (F:=fun _=>False) hb67) (fun _ _ e=>e),HD1.out.2.trans (Only.of_below (F:=fun _=>False) (HQ.out.trans (hb67.mono HQ.out.size))) (fun _ _ e=>e.elim),
       .inr ⟨w1.heap.size,ns,rfl,HFS.out.under hb67,Nat.le_refl _,fun d hd g hg=>by have:=(HRD.out d hd).2 g hg;omega,HNL.out,HM41.out,HND.out,by rw [←HMM.out];exact HOK.out⟩⟩
     ·have HRM:=Lib.hid (room_any V6 A6 c6 n6 (heldN ns) hn6 hr6 (heldN_small HNL.out HND.out) (m:Int) false ⟨fun e=>(by cases e),fun e=>absurd e hok⟩)
      clear hn6 hr6 hb6
      have HOK:=Lib.hid hok
      clear hok
      go_wp2_with (first | (refine (HJM.out _ _ HD6.out).mono ?_;rintro e w2 ⟨rfl,rfl⟩) | (refine HRM.out.mono ?_;rintro e V7 ⟨rfl,hb7⟩) | fail)
      go_ret2
      have hb67:=HB6.out.trans (hb7.mono HB6.out.size)
      exact .inr ⟨trivial,w1.heap.size,HD1.out.2.size,Nat.le_trans HQ.out.size hb67.size,HDV.out.keep (Only.of_below (F:=fun _=>False) hb67) (fun _ _ e=>e),HD1.out.2.trans (Only.of_below (F:=fun _=>False) (HQ.out.trans (hb67.mono HQ.out.size))) (fun _ _ e=>e.elim),
       .inl ⟨rfl,fun ns' hM=>HOK.out (by rw [HMM.out];exact (hM.by HNL.out HND.out).room)⟩⟩
end
end Go.Proofs.YtnedpkhehiijhaaGreat
namespace Go.Proofs.YtnedpkhehiijhaaGreat
open Go.RowKit
set_option linter.unusedVariables false
set_option linter.unusedSimpArgs false
attribute [local go_sem ↓] Go.wp_at_zero Go.wp_at_succ

theorem grown_belowF {a w:World} {r:Option Nat} {B:Nat} (h:a.grownBy w r) (hr:∀ g,r=some g→B≤g) (hs:B≤a.heap.size):Below B a w :=
 ⟨h.os,h.tape,h.output,h.size,fun b hb=>h.block b (by omega) (fun e=>by have:=hr b e.symm;omega)⟩

theorem vals_fromF {k:IntKind} {w:World} {B:Nat} {A:Option Addr} {c:Nat} {l:List Nat} (hr:Rd k w B A c l) (h:0<l.length):∃ ad,A=some ad∧∀ j v,(vals k l)[j]?=some v→w.cell? (ad.add j)=some v:=by
 obtain ⟨b,off,rfl,hb,hc⟩:=hr.2.2 h
 refine ⟨_,rfl,fun j v hv=>?_⟩
 have hj:j<l.length:=by
  have:=(List.getElem?_eq_some_iff.1 hv).1
  simpa [vals] using this
 have ha:(⟨b,off,none⟩:Addr).add j=⟨b,off+j,none⟩:=by unfold Addr.add;split <;> simp_all
 rw [ha,hc j hj,←hv]
 simp [vals,List.getD,hj]
section
variable {P:Program} (w:World) {ops:Array Oper} {rest:List Oper} {o:Oper} {a:Act} {Q:Exit→Act→World→Prop}
theorem wpList_joinF (hgd:o.guard=none) (s x:Operand) (t:TypeId) (ho:o.op = .call { callee:=.builtin .append,args:=#[s,x],argTypes:=#[t,t] })
  (k:IntKind) (B:Nat) (e:TypeId) (bytes:Nat) (ht:P.underlying t=some (.slice e)) (hi:(P.info? e).map (fun i=>(i.zero,i.size,i.bytes))=some (some (.int k 0),1,bytes))
  (A:Option Addr) (n c:Nat) (l:List Nat) (hs:a.eval s = .slice A n c) (hn:l.length=n) (hown:Own k e w B A c l)
  (A2:Option Addr) (B2 m c2:Nat) (news:List Nat) (hx:a.eval x = .slice A2 m c2) (hm:news.length=m) (hg:Rd k w B2 A2 c2 news) (hm0:0<m) (hsz:n+m≤100000000) (hby:bytes≤8) (hB:B≤w.heap.size)
  (hK:∀ g' c' w',Own k e w' B (some ⟨g',0,none⟩) c' (l ++ news)→w.grownBy w' (blockOf A)→(blockOf A=some g'∨g'=w.heap.size)→wpList P ops Q rest (a.put o.dst (.slice (some ⟨g',0,none⟩) (n+m) c')) w') :
  wpList P ops Q (o :: rest) a w:=by
 subst hn;subst hm
 obtain ⟨i,hi',hz,hsize,hbytes⟩:=info_parts hi
 obtain ⟨ad,rfl,hnews⟩:=vals_fromF hg hm0
 refine wpList_append_lies w hgd s x t ho B e i (.int k 0) 1 bytes ht hi' hz hsize hbytes rfl (by omega) (.slice A l.length c) l.length (vals k l) hs hown ad news.length c2 (vals k news) hx (by rw [vals_length];omega)
  hnews (vals_one k news) hm0 (by unfold maxLen;omega)
  (Nat.le_trans (Nat.mul_le_mul hsz hby) (by omega)) hB w.heap.size rfl ?_
 intro g' cap w' hown' hgr hat hlt
 rw [ownBlock_eq] at hgr hat
 refine hK g' cap w' ?_ hgr hat
 unfold Own
 rw [List.length_append,←vals_append]
 exact hown'
end

def secsN (s:Dk) (l:List Int):List Nat:=l.flatMap fun p=>s.read (157+p)
def dataN (s:Dk) (d:Nd):List Nat:=(secsN s d.pl).take d.size.toNat
theorem secs_len {s:Dk}:∀ {l:List Int},(∀ p∈l,(s.read (157+p)).length=64)→(secsN s l).length=64*l.length
 | [],_=>rfl
 | p :: l,h=>by
  have ih:=secs_len (l:=l) fun q hq=>h q (List.mem_cons_of_mem _ hq)
  have h1:=h p (List.mem_cons_self ..)
  unfold secsN at ih ⊢
  rw [List.flatMap_cons,List.length_append,ih,h1,List.length_cons]
  omega
theorem secs_snoc {s:Dk} {l:List Int} {k:Nat} (h:k<l.length):secsN s (l.take (k+1))=secsN s (l.take k) ++ s.read (157+l.getD k 0):=by
 have e:l[k]?=some (l.getD k 0):=by simp [List.getD,h]
 unfold secsN
 rw [take_snocJ e,List.flatMap_append]
 simp
def RelD (s:Dk) (l:List Int) (W1:World) (sl si:Value) (wr:World):Prop :=
 ∃ (k:Nat) (A:Option Addr) (c:Nat),k≤l.length∧si = .int .i64 (k:Int)∧sl = .slice A (64*k) c∧Own .u8 5 wr W1.heap.size A c (secsN s (l.take k))∧Below W1.heap.size W1 wr
section
variable {w:World} {F:Nat→Prop} {gd:Nat} {s:Dk}
set_option maxRecDepth 100000 in
set_option maxHeartbeats 8000000 in
theorem data_any (h:Disk w F gd s) (gf:Nat) (cs:Array Value) (hf:Holds w gf 73 cs) (hc0:cs[0]?=some (.pointer (some ⟨gd,0,none⟩))) (d:Nd) (n:Nat) (hn:d.pl.length=n) (hp:RdI .i64 w w.heap.size d.pa d.pc d.pl)
  (hr:∀ p∈d.pl,0≤p∧p<(s.many:Int)) (h64:∀ p∈d.pl,(s.read (157+p)).length=64) (hz0:0≤d.size) (hz:d.size≤64*n) (hn10:n≤10) :
  Calls Tryz.prog 54 #[.pointer (some ⟨gf,0,none⟩),.agg #[.string d.name,.int .i64 d.size,.slice d.pa n d.pc]] w fun e w'=>∃ A m c,e = .returned (.slice A m c)∧(dataN s d).length=m∧Rd .u8 w' w'.heap.size A c (dataN s d)∧Below w.heap.size w w'∧∀ g,blockOf A=some g→w.heap.size≤g:=by
 obtain ⟨nm,z,pa,pc,pl⟩:=d
 dsimp only at hn hp hr h64 hz0 hz ⊢
 obtain ⟨W1,hW1⟩:∃ W1,W1=w.alloc (.cells #[.string nm,.int .i64 z,.slice pa n pc] 70):=⟨_,rfl⟩
 have hb1:Below w.heap.size w W1:=by rw [hW1];exact (Below.refl _ _).alloc (Nat.le_refl _) _
 have hz1:W1.heap.size=w.heap.size+1:=by rw [hW1];simp
 have HBOX:Hid (Holds W1 w.heap.size 70 #[.string nm,.int .i64 z,.slice pa n pc]):=Lib.hid (by rw [hW1];exact Holds.fresh _ _ _)
 have HF1:Hid (Holds W1 gf 73 cs):=Lib.hid (hf.under hb1 hf.lt)
 have HD1:Hid (Disk W1 F gd s):=Lib.hid (h.keep (Only.of_below (F:=fun _=>False) hb1) (fun _ _ e=>e))
 have HP1:Hid (RdI .i64 W1 w.heap.size pa pc pl):=Lib.hid (hp.under hb1)
 have HW1:=Lib.hid hW1
 have HB1:=Lib.hid hb1
 have HZ1:=Lib.hid hz1
 have HN:=Lib.hid hn
 have HR:=Lib.hid hr
 have H64:=Lib.hid h64
 have HC0:=Lib.hid hc0
 have HK:Hid (∀ V:World,Below W1.heap.size W1 V→V.cell? ⟨gf,0,none⟩=some (.pointer (some ⟨gd,0,none⟩))∧V.cell? ⟨w.heap.size,1,none⟩=some (.int .i64 z)∧V.cell? ⟨w.heap.size,2,none⟩=some (.slice pa n pc)∧Disk V F gd s∧RdI .i64 V w.heap.size pa pc pl):=Lib.hid fun V hV=>by
  refine ⟨?_,((HBOX.out.under hV HBOX.out.lt).cell 1),((HBOX.out.under hV HBOX.out.lt).cell 2),HD1.out.keep (Only.of_below (F:=fun _=>False) hV) (fun _ _ e=>e),HP1.out.under (hV.mono (by omega))⟩
  rw [(HF1.out.under hV HF1.out.lt).cell 0];exact HC0.out
 have HJR:Hid (∀ (V:World) (p:Int),Below W1.heap.size W1 V→p∈pl→Calls Tryz.prog 36 #[.pointer (some ⟨gd,0,none⟩),.int .i64 p] V fun e w'=>∃ A c,e = .returned (.slice A 64 c)∧Rd .u8 w' w'.heap.size A c (s.read (157+p))∧Below V.heap.size V w'):=Lib.hid fun V p hV hp=>by
  have hj:=jread (HK.out V hV).2.2.2.1 p
  rw [if_pos (HR.out p hp)] at hj
  exact hj.mono fun e w' ⟨A,m,c,he,hm,hr,hb⟩=>⟨A,c,by rw [he,←hm,H64.out p hp],hr,hb⟩
 clear h hf hc0 hp hr h64 hb1 hz1 hW1
 obtain ⟨q0,q1,q2,_,_⟩:=HK.out W1 (Below.refl _ _)
 go_enter Tryz.func54,Tryz.ntmps54
 go_wp2_with (first | (rw [←HW1.out]) | fail)
 clear q0 q1 q2
 go_loopw [5,11] (fun sl si wr=>RelD s pl W1 sl si wr) (fun _ si _=>n - (intOf si).toNat)
 case atStart=>exact ⟨0,none,0,by omega,rfl,rfl,Own.nil _ _ _ _,Below.refl _ _⟩
 case round =>
  obtain ⟨k,A,c,hk,rfl,rfl,ho,hq⟩:=hrel
  obtain ⟨V,hV⟩:∃ V,V=wr:=⟨_,rfl⟩
  subst hV
  rw [HN.out] at hk
  have HO:=Lib.hid ho
  have HQ:=Lib.hid hq
  clear ho hq
  obtain ⟨k0,k1,k2,_,hpl⟩:=HK.out V HQ.out
  by_cases hlt:k<n
  case pos =>
   obtain ⟨pb,po,p,rfl,hpb,hpc,Hp⟩:=hpl.at_ (i:=k) (by rw [HN.out];exact hlt)
   have hkI:(k:Int)<(n:Int):=by omega
   have hk0:(0:Int)≤(k:Int):=by omega
   have hkn:((k:Int)).toNat=k:=by omega
   have hpm:p∈pl:=by rw [Hp.out];rw [show pl.getD k 0=pl[k]'(by rw [HN.out];exact hlt) by simp [List.getD,HN.out,hlt]];exact List.getElem_mem _
   have HJ:=Lib.hid (HJR.out V p HQ.out hpm)
   have HSN:Hid (secsN s (pl.take (k+1))=secsN s (pl.take k) ++ s.read (157+p)):=Lib.hid (by rw [secs_snoc (by rw [HN.out];exact hlt),←Hp.out])
   have HL64:=Lib.hid (H64.out p hpm)
   have HLK:Hid ((secsN s (pl.take k)).length=64*k):=Lib.hid (by rw [secs_len fun q hq=>H64.out q (List.mem_of_mem_take hq),List.length_take,HN.out,Nat.min_eq_left (by omega)])
   clear hpl
   go_wp2_with (first | (refine HJ.out.mono ?_;rintro e V2 ⟨A2,c2,rfl,hr2,hb2⟩) | (at_builtin;refine wpList_joinF _ rfl (.tmp 15) (.tmp 21) 44 rfl .u8 W1.heap.size 5 1 Tryz.underlying44 info_u8 A (64*k) c (secsN s (pl.take k)) rfl HLK.out (HO.out.under_all hb2) A2 V2.heap.size 64 c2 _ rfl HL64.out hr2 (by omega) (by omega) (by omega) (Nat.le_trans HQ.out.size hb2.size) ?_;intro g9 c9 W9 ho9 hg9 hat9) | fail)
   have HB2:=Lib.hid hb2
   have HO9:Hid (Own .u8 5 W9 W1.heap.size (some ⟨g9,0,none⟩) c9 (secsN s (pl.take (k+1)))):=Lib.hid (by rw [HSN.out];exact ho9)
   have HQ9:Hid (Below W1.heap.size W1 W9):=Lib.hid ((HQ.out.trans (HB2.out.mono HQ.out.size)).trans (grown_belowF hg9 (fun g hg=>(HO.out.block hg).1) (Nat.le_trans HQ.out.size HB2.out.size)))
   clear ho9 hg9 hat9 hb2 hr2
   go_wp2_with fail
   go_roundw
   case rel=>exact ⟨k+1,some ⟨g9,0,none⟩,c9,by rw [HN.out];omega,by go_num,by rw [show 64*(k+1)=64*k+64 by omega],HO9.out,HQ9.out⟩
   case measure=>simp [intOf];omega
  case neg =>
   obtain rfl:k=n:=by omega
   have hkI:¬ ((k:Int)<(k:Int)):=by omega
   have HTA:Hid (pl.take k=pl):=Lib.hid (by rw [←HN.out];exact List.take_length)
   obtain ⟨zn,hzn⟩:∃ zn:Nat,z=(zn:Int):=⟨z.toNat,by omega⟩
   subst hzn
   have hzk:zn≤64*k:=by omega
   have hmin:min (zn:Int) (64*(k:Int))=(zn:Int):=by omega
   have hcc:64*k≤c:=by
    have:=HO.out.rd.1
    rw [secs_len fun q hq=>H64.out q (List.mem_of_mem_take hq),HTA.out,HN.out] at this
    exact this
   clear hpl
   go_wp2_with fail
   go_ret
   have hlen:(dataN s ⟨nm,(zn:Int),pa,pc,pl⟩).length=zn:=by
    unfold dataN
    dsimp only
    rw [List.length_take,secs_len fun q hq=>H64.out q hq,HN.out,Int.toNat_natCast]
    omega
   have hrd:Rd .u8 V V.heap.size A c (dataN s ⟨nm,(zn:Int),pa,pc,pl⟩):=by
    have:=HO.out.rd
    rw [HTA.out] at this
    exact this.cut _
   exact ⟨A,zn,c,rfl,hlen,hrd,HB1.out.trans (HQ.out.mono HB1.out.size),fun g hg=>by have:=(HO.out.block hg).1;have:=HZ1.out;omega⟩
end
end Go.Proofs.YtnedpkhehiijhaaGreat
namespace Go.Proofs.YtnedpkhehiijhaaGreat
open Go.RowKit Go.WideMaps Go.Maps
set_option linter.unusedVariables false
set_option linter.unusedSimpArgs false

def RelG (l:List Nd) (m:Nat) (B1 g1:Nat) (w:World) (n:Nat) (i:Value) (wr:World):Prop :=
 ∃ (k:Nat) (f:Nat→Bool),k≤n∧i = .int .i64 k∧Hid (Holds wr g1 4 (bits m f))∧Hid (∀ x:Nat,f x=true↔hasL l (x:Int) k)∧Hid (Below w.heap.size w wr)
def RelH (l:List Nd) (m:Nat) (g1:Nat) (w:World) (k p:Nat) (pl:List Int) (i:Value) (wr:World):Prop :=
 ∃ (j:Nat) (f:Nat→Bool),j≤p∧i = .int .i64 j∧Hid (Holds wr g1 4 (bits m f))∧Hid (∀ x:Nat,f x=true↔hasL l (x:Int) k∨∃ i,i<j∧pl.getD i 0=(x:Int))∧Hid (Below w.heap.size w wr)
def RelF2 (hb:Nat→Bool) (w:World) (g1 m:Nat) (ff:Nat→Bool) (r:Nat) (v i:Value) (wr:World):Prop :=
 ∃ (k:Nat) (A':Option Addr) (c' n':Nat),k≤r∧i = .int .i64 (40+(k:Int))∧v = .slice A' n' c'∧Hid ((freeN hb k).length=n')∧Hid (Own .i64 3 wr w.heap.size A' c' (freeN hb k))∧Hid (Holds wr g1 4 (bits m ff))∧Hid (∀ g,blockOf A'=some g→g≠g1)∧Hid (Below w.heap.size w wr)

set_option maxRecDepth 100000 in
set_option maxHeartbeats 4000000 in
theorem free_yes (w:World) (A:Option Addr) (c n:Nat) (l:List Nd) (hn:l.length=n) (hr:RdN w w.heap.size A c l) (hs:∀ j,j<n→(l.getD j default).name.size≤9223372036854775807∧(l.getD j default).size≤9223372036854775807) (m:Nat) (hv:RoomOk l (m:Int)) (hb:Nat→Bool) (hh:∀ x:Nat,hb x=true↔hasL l x n) :
  Calls Tryz.prog 56 #[.slice A n c,.int .i64 (m:Int)] w fun e w'=>∃ A' c' n',e = .returned (.slice A' n' c')∧(freeN hb (m - 40)).length=n'∧Own .i64 3 w' w.heap.size A' c' (freeN hb (m - 40))∧Below w.heap.size w w':=by
 have HC:=Lib.hid (room_any w A c n l hn hr hs (m:Int) true ⟨fun _=>hv,fun _=>rfl⟩)
 have hm2:m≤2000:=by have:=hv.m1;omega
 have HUP:Hid (RoomUp l (m:Int) n):=Lib.hid (by rw [←hn];exact hv.all)
 have HH:=Lib.hid hh
 have HN:=Lib.hid hn
 have HR:Hid (∀ W,Below w.heap.size w W→RdN W w.heap.size A c l):=Lib.hid fun W hW=>hr.under hW
 have hlc:n≤c:=by have:=hr.1;omega
 have hc63:=hr.2.1
 have hmb:=make_bits m hm2
 clear hn hr hs hv hh
 go_enter Tryz.func56,Tryz.ntmps56
 go_wp2_with fail
 refine HC.out.mono ?_
 rintro e w1 ⟨rfl,hb1⟩
 have hbit:Hid (Holds (w1.alloc (.cells (bits m fun _=>false) 4)) w1.heap.size 4 (bits m fun _=>false)):=Lib.hid (Holds.fresh _ _ _)
 have hbel:Hid (Below w.heap.size w (w1.alloc (.cells (bits m fun _=>false) 4))):=Lib.hid (hb1.alloc hb1.size _)
 have HG1:Hid (w.heap.size≤w1.heap.size):=Lib.hid hb1.size
 clear HC hb1
 go_wp2_with fail
 generalize w1.alloc (.cells (bits m fun _=>false) 4)=W at *
 generalize w1.heap.size=g1 at *
 clear hmb
 go_loopw [20] (fun i wr=>RelG l m 0 g1 w n i wr) (fun i _=>n - (intOf i).toNat)
 case atStart=>exact ⟨0,_,Nat.zero_le _,rfl,hbit,Lib.hid (fun x=>⟨(fun e=>by cases e),fun ⟨j,i,h,_⟩=>by omega⟩),hbel⟩
 case round =>
  clear hbit hbel
  obtain ⟨k,f,hk,rfl,HB,HF,HQ⟩:=hrel
  obtain ⟨V,hV⟩:∃ V,V=wr:=⟨_,rfl⟩
  subst hV
  by_cases hkn:k<n
  case pos =>
   have hkI:(k:Int)<(n:Int):=by omega
   have hk0:(0:Int)≤(k:Int):=by omega
   have hkl:k<l.length:=by rw [HN.out];exact hkn
   obtain ⟨b,off,rfl,hb',hcs⟩:=(HR.out V HQ.out).2.2.2 (by omega)
   obtain ⟨q0,q1,q2⟩:=hcs k hkl
   have HRI:Hid (∀ W,Below w.heap.size w W→RdI .i64 W w.heap.size (l.getD k default).pa (l.getD k default).pc (l.getD k default).pl):=Lib.hid fun W hW=>(HR.out W hW).2.2.1 k hkl
   have HHN:Hid (∀ x:Int,hasL l x (k+1)↔hasL l x k∨∃ i,i<(l.getD k default).pl.length∧(l.getD k default).pl.getD i 0=x):=Lib.hid fun x=>hasL_next hkl
   have HRG:Hid (∀ i,i<(l.getD k default).pl.length→40≤(l.getD k default).pl.getD i 0∧(l.getD k default).pl.getD i 0<(m:Int)):=Lib.hid fun i hi=>⟨(HUP.out.rng k i hkn hi).1,(HUP.out.rng k i hkn hi).2.1⟩
   clear hcs
   generalize l.getD k default=d at *
   obtain ⟨dn,dz,pa,pc,pl⟩:=d
   simp only at q0 q1 q2 HRI HHN HRG
   obtain ⟨p,hp⟩:∃ p,pl.length=p:=⟨_,rfl⟩
   have HPL:=Lib.hid hp
   rw [hp] at q2 HHN HRG
   have hri:=HRI.out V HQ.out
   have hpc1:p≤pc:=by have:=hri.1;omega
   have hpc:=hri.2.1
   clear hri hp
   have hVA:Hid (Below w.heap.size w (V.alloc (.cells #[.string dn,.int .i64 dz,.slice pa p pc] 70))):=Lib.hid (HQ.out.alloc HQ.out.size _)
   have hBA:Hid (Holds (V.alloc (.cells #[.string dn,.int .i64 dz,.slice pa p pc] 70)) g1 4 (bits m f)):=Lib.hid (HB.out.alloc _)
   clear HB
   go_wp2_with fail
   go_loopw [27] (fun i wr=>RelH l m g1 w k p pl i wr) (fun i _=>p - (intOf i).toNat)
   case atStart=>exact ⟨0,f,Nat.zero_le _,rfl,hBA,Lib.hid (fun x=>by rw [HF.out];exact ⟨.inl,fun h=>h.elim id fun ⟨i,hi,_⟩=>by omega⟩),hVA⟩
   case round =>
    clear hVA hBA q0 q1 q2
    obtain ⟨j,g,hj,rfl,HB,HG,HW⟩:=hrel
    obtain ⟨W,hW⟩:∃ W,W=wr:=⟨_,rfl⟩
    subst hW
    by_cases hjp:j<p
    case pos =>
     have hjI:(j:Int)<(p:Int):=by omega
     have hj0:(0:Int)≤(j:Int):=by omega
     obtain ⟨b2,off2,y,rfl,hb2,hy,Hy⟩:=(HRI.out W HW.out).at_ (i:=j) (by rw [HPL.out];exact hjp)
     have HVAL:Hid (pl.getD j 0=y):=Lib.hid Hy.out.symm
     have hyr:=HRG.out j hjp
     rw [HVAL.out] at hyr
     obtain ⟨x,rfl⟩:∃ x:Nat,y=(x:Int):=⟨y.toNat,by omega⟩
     have hx0:(0:Int)≤(x:Int):=by omega
     have hxm:x<m:=by omega
     have hxI:(x:Int)<(m:Int):=by omega
     have hbc:=(HB.out.cell x).trans (bits_at g hxm)
     have hbf:=HB.out.open_ x
     have HB4:Hid (Holds (W.setCell ⟨g1,x,none⟩ (.bool true)) g1 4 (bits m fun z=>z == x || g z)):=Lib.hid (by rw [←bits_set g hxm];exact HB.out.stored x _)
     have HW4:Hid (Below w.heap.size w (W.setCell ⟨g1,x,none⟩ (.bool true))):=Lib.hid (HW.out.setCell (p:=⟨g1,x,none⟩) HG1.out _)
     have HG4:Hid (∀ z:Nat,(z == x || g z)=true↔hasL l (z:Int) k∨∃ i,i<j+1∧pl.getD i 0=(z:Int)):=Lib.hid fun z=>by
      rw [Bool.or_eq_true,HG.out z,beq_iff_eq]
      constructor
      ·rintro (rfl | h | ⟨i,hi,he⟩)
       ·exact .inr ⟨j,by omega,HVAL.out⟩
       ·exact .inl h
       ·exact .inr ⟨i,by omega,he⟩
      ·rintro (h | ⟨i,hi,he⟩)
       ·exact .inr (.inl h)
       ·rcases Nat.lt_or_ge i j with h5 | h5
        ·exact .inr (.inr ⟨i,h5,he⟩)
        ·obtain rfl:i=j:=by omega
         rw [HVAL.out] at he
         exact .inl (by omega)
     go_wp2_with fail
     go_roundw
     case rel=>exact ⟨j+1,_,by omega,by go_num,HB4,HG4,HW4⟩
     case measure=>simp [intOf];omega
    case neg =>
     obtain rfl:j=p:=by omega
     have hjI:¬ ((j:Int)<(j:Int)):=by omega
     have HGN:Hid (∀ x:Nat,g x=true↔hasL l (x:Int) (k+1)):=Lib.hid fun x=>by rw [HG.out,HHN.out]
     go_wp2_with fail
     go_roundw
     case rel=>exact ⟨k+1,g,by omega,by go_num,HB,HGN,HW⟩
     case measure=>simp [intOf];omega
  case neg =>
   obtain rfl:k=n:=by omega
   have hkI:¬ ((k:Int)<(k:Int)):=by omega
   have HFB:Hid (∀ x:Nat,f x=hb x):=Lib.hid fun x=>by
    rw [Bool.eq_iff_iff,HF.out,HH.out]
   go_wp2_with fail
   go_loopw [10,11] (fun v i wr=>RelF2 hb w g1 m f (m - 40) v i wr) (fun v i _=>(m - 40) - (intOf i - 40).toNat)
   case atStart=>exact ⟨0,none,0,0,Nat.zero_le _,rfl,rfl,Lib.hid rfl,Lib.hid (Own.nil _ _ _ _),HB,Lib.hid (fun g hg=>by simp [blockOf] at hg),HQ⟩
   case round =>
    clear HB HQ
    obtain ⟨t,A',c',n',ht,rfl,rfl,HL,HO,HB,HNE,HQ⟩:=hrel
    obtain ⟨X,hX⟩:∃ X,X=wr:=⟨_,rfl⟩
    subst hX
    have hn':n'≤2000:=by have:=freeN_length hb t;have:=HL.out;omega
    by_cases htm:t<m - 40
    case pos =>
     have hkI:decide (40+(t:Int)<(m:Int))=true:=decide_eq_true (by omega)
     have hw1:IntKind.i64.wrap (40+(t:Int)+1)=40+((t+1:Nat):Int):=by rw [IntWalk.i64_in _ (by omega)];push_cast;omega
     obtain ⟨x,hx⟩:∃ x:Nat,x=40+t:=⟨_,rfl⟩
     have hxI:40+(t:Int)=(x:Int):=by omega
     have hxm:x<m:=by omega
     have hxI2:(x:Int)<(m:Int):=by omega
     have hx0:(0:Int)≤(x:Int):=by omega
     have hbc:=(HB.out.cell x).trans (bits_at f hxm)
     rw [HFB.out x] at hbc
     have HF1:Hid (freeN hb (t+1)=if hb x=true then freeN hb t else freeN hb t ++ [x]):=Lib.hid (by rw [hx];exact freeN_succ hb t)
     rw [hxI] at hkI hw1
     have HXI:=Lib.hid hxI
     rw [hxI]
     clear hx hxI
     generalize hb x=bv at *
     cases bv
     case true =>
      have HF2:Hid (freeN hb (t+1)=freeN hb t):=Lib.hid (by have:=HF1.out;simpa using this)
      clear HF1
      go_wp2_with fail
      go_roundw
      case rel=>exact ⟨t+1,A',c',n',by omega,by go_num,rfl,Lib.hid (by rw [HF2.out];exact HL.out),Lib.hid (by rw [HF2.out];exact HO.out),HB,HNE,HQ⟩
      case measure=>have hxi:=HXI.out;simp [intOf];omega
     case false =>
      have HF2:Hid (freeN hb (t+1)=freeN hb t ++ [x]):=Lib.hid (by have:=HF1.out;simpa using this)
      clear HF1
      have hnu:nums .i64 [x]=#[.int .i64 (x:Int)]:=by simp [nums]
      have hg:Holds (X.alloc (.cells #[.int .i64 (x:Int)] 3)) X.heap.size 3 (nums .i64 [x]):=by rw [hnu];exact Holds.fresh _ _ _
      have HG:=Lib.hid hg
      have HO2:Hid (Own .i64 3 (X.alloc (.cells #[.int .i64 (x:Int)] 3)) w.heap.size A' c' (freeN hb t)):=Lib.hid (HO.out.alloc _)
      have HQ2:Hid (Below w.heap.size w (X.alloc (.cells #[.int .i64 (x:Int)] 3))):=Lib.hid (HQ.out.alloc HQ.out.size _)
      have HB2:Hid (Holds (X.alloc (.cells #[.int .i64 (x:Int)] 3)) g1 4 (bits m f)):=Lib.hid (HB.out.alloc _)
      have HAB:Hid (∀ g,blockOf A'=some g→w.heap.size≤g):=Lib.hid fun g hg=>(HO.out.block hg).1
      have HGL:Hid (g1<(X.alloc (.cells #[.int .i64 (x:Int)] 3)).heap.size):=Lib.hid HB2.out.lt
      clear hnu hg
      go_wp2_with (first | (refine wpList_push _ rfl (.tmp 46) (.tmp 48) 59 rfl .i64 w.heap.size 3 8 Tryz.underlying59 info_int A' n' c' (freeN hb t) rfl HL.out HO2.out X.heap.size 1 1 [x] rfl rfl HG.out (by omega) (by omega) (by omega) HQ2.out.size ?_;intro g5 c5 W5 ho5 hgr5 hat5) | fail)
      have HQ5:Hid (Below w.heap.size w W5):=Lib.hid (HQ2.out.trans ⟨hgr5.os,hgr5.tape,hgr5.output,hgr5.size,fun g hg=>hgr5.block g (Nat.lt_of_lt_of_le hg HQ2.out.size) (fun e=>by have:=HAB.out g e.symm;omega)⟩)
      have HB5:Hid (Holds W5 g1 4 (bits m f)):=Lib.hid (HB2.out.grown hgr5 (fun e=>HNE.out g1 e.symm rfl))
      have HN5:Hid (∀ g,blockOf (some (⟨g5,0,none⟩:Addr))=some g→g≠g1):=Lib.hid (fun g hg=>by
       obtain rfl:g5=g:=by simpa [blockOf] using hg
       rcases hat5 with h | h
       ·exact HNE.out _ h
       ·have:=HGL.out;omega)
      have HO5:=Lib.hid ho5
      clear ho5 hgr5 hat5
      go_wp2_with fail
      go_roundw
      case rel=>exact ⟨t+1,_,_,n' + 1,by omega,by go_num,rfl,Lib.hid (by rw [HF2.out,List.length_append,HL.out];rfl),Lib.hid (by rw [HF2.out];exact HO5.out),HB5,HN5,HQ5⟩
      case measure=>have hxi:=HXI.out;simp [intOf];omega
    case neg =>
     obtain rfl:t=m - 40:=by omega
     have hkI:decide (40+((m - 40:Nat):Int)<(m:Int))=false:=decide_eq_false (by omega)
     go_wp2_with fail
     go_ret
     exact ⟨A',c',n',rfl,HL.out,HO.out,HQ.out⟩
end Go.Proofs.YtnedpkhehiijhaaGreat
namespace Go.Proofs.YtnedpkhehiijhaaGreat
open Go.RowKit
set_option linter.unusedVariables false
set_option linter.unusedSimpArgs false
attribute [local go_sem ↓] Go.wp_at_zero Go.wp_at_succ

/-- Files that are mounted. -/
structure Fsy (w:World) (F:Nat→Prop) (gf gd:Nat) (s:Dk) (ns:List Nd):Prop where
 dk:Disk w F gd s
 fs:FsAt w gf gd ns
 nf:¬ F gf
 nd:∀ d∈ns,0<d.pl.length→∀ g,blockOf d.pa=some g→¬ F g∧g≠gf
 mt:Mounts s ns
theorem Fsy.under {w w':World} {F:Nat→Prop} {gf gd:Nat} {s:Dk} {ns:List Nd} (h:Fsy w F gf gd s ns) (hb:Below w.heap.size w w'):Fsy w' F gf gd s ns :=
 ⟨h.dk.keep (Only.of_below (F:=fun _=>False) hb) (fun _ _ e=>e),h.fs.under hb,h.nf,h.nd,h.mt⟩
noncomputable def hasB (l:List Nd) (x:Nat):Bool:=@decide (hasL l (x:Int) l.length) (Classical.propDecidable _)
theorem hasB_iff (l:List Nd) (x:Nat):hasB l x=true↔hasL l (x:Int) l.length:=by unfold hasB;simp
noncomputable def leftN (s:Dk) (ns:List Nd):Nat:=(freeN (hasB (heldN ns)) (s.many - 40)).length
section
variable {w:World} {F:Nat→Prop} {gf gd:Nat} {s:Dk} {ns:List Nd}
set_option maxRecDepth 100000 in
set_option maxHeartbeats 8000000 in
theorem left_any (h:Fsy w F gf gd s ns):Calls Tryz.prog 24 #[.pointer (some ⟨gf,0,none⟩)] w fun e w'=>e = .returned (.int .i64 (leftN s ns:Nat))∧Below w.heap.size w w':=by
 have HK:Hid (∀ W,Below w.heap.size w W→W.cell? ⟨gf,0,none⟩=some (.pointer (some ⟨gd,0,none⟩))):=Lib.hid fun W hW=>((h.fs.under hW).hd.cell 0)
 have HHE:Hid (∀ W,Below w.heap.size w W→Calls Tryz.prog 38 #[.pointer (some ⟨gf,0,none⟩)] W fun e w'=>∃ A n c,e = .returned (.slice A n c)∧(heldN ns).length=n∧RdN w' w'.heap.size A c (heldN ns)∧Below W.heap.size W w'):=Lib.hid fun W hW=>held_any W gf gd ns (h.fs.under hW)
 have HSM:Hid (∀ {n:Nat} j,j<n→((heldN ns).getD j default).name.size≤9223372036854775807∧((heldN ns).getD j default).size≤9223372036854775807):=Lib.hid (heldN_small h.mt.n40 h.mt.rd)
 obtain ⟨m,hm⟩:∃ m,m=s.many:=⟨_,rfl⟩
 have HMM:=Lib.hid hm
 have HRO:Hid (RoomOk (heldN ns) (m:Int)):=Lib.hid (by rw [hm];exact h.mt.room)
 have HJM:Hid (∀ W,Below w.heap.size w W→Calls Tryz.prog 34 #[.pointer (some ⟨gd,0,none⟩)] W fun e w'=>e = .returned (.int .i64 (m:Int))∧W=w'):=Lib.hid fun W hW=>by rw [hm];exact jmany (h.under hW).dk
 clear h hm
 go_enter Tryz.func24,Tryz.ntmps24
 go_wp2_with fail
 refine wp_region_noPanic ?_
 refine wp_region_held_drew (S:=fun W=>Below w.heap.size w W) (by kernel_rfl) ((Below.refl _ w).drew) (fun hHeld=>?_)
 refine wpAnyH_take (i:=0) (oi:={ dst:=some 5,op:=Op.move (Operand.tmp 0),type:=27,pos:=_,after:=_,guard:=none }) (v:=?_) rfl (by kernel_rfl) (by kernel_rfl) (by kernel_rfl) (fun _ _ _ h=>h) (Or.inl ⟨by rfl,?_⟩) hHeld ?_
 rotate_left 1
 ·(intro W hW;(try dsimp only at hW);go_simp;try with_reducible rfl)
 try simp only [Act.put,List.setIfInBounds_toArray,List.set_cons_zero,List.set_cons_succ]
 refine wpAnyH_take (i:=2) (oi:={ dst:=some 7,op:=Op.move (Operand.tmp 0),type:=27,pos:=_,after:=_,guard:=none }) (v:=?_) rfl (by kernel_rfl) (by kernel_rfl) (by kernel_rfl) (fun _ _ _ h=>h) (Or.inl ⟨by rfl,?_⟩) hHeld ?_
 rotate_left 1
 ·(intro W hW;(try dsimp only at hW);go_simp;try with_reducible rfl)
 try simp only [Act.put,List.setIfInBounds_toArray,List.set_cons_zero,List.set_cons_succ]
 refine wpAnyH_take (i:=3) (oi:={ dst:=some 8,op:=Op.nilCheck (Operand.tmp 7),type:=0,pos:=_,after:=_,guard:=none }) (v:=?_) rfl (by kernel_rfl) (by kernel_rfl) (by kernel_rfl) (fun _ _ _ h=>h) (Or.inl ⟨by rfl,?_⟩) hHeld ?_
 rotate_left 1
 ·(intro W hW;(try dsimp only at hW);go_simp;try with_reducible rfl)
 try simp only [Act.put,List.setIfInBounds_toArray,List.set_cons_zero,List.set_cons_succ]
 refine wpAnyH_take (i:=4) (oi:={ dst:=some 9,op:=Op.fieldAddr 73 (Operand.tmp 8) 0,type:=0,pos:=_,after:=_,guard:=none }) (v:=?_) rfl (by kernel_rfl) (by kernel_rfl) (by kernel_rfl) (fun _ _ _ h=>h) (Or.inl ⟨by rfl,?_⟩) hHeld ?_
 rotate_left 1
 ·(intro W hW;(try dsimp only at hW);go_simp;try with_reducible rfl)
 try simp only [Act.put,List.setIfInBounds_toArray,List.set_cons_zero,List.set_cons_succ]
 refine wpAnyH_take (i:=5) (oi:={ dst:=some 10,op:=Op.load 23 (Operand.tmp 9),type:=23,pos:=_,after:=_,guard:=none }) (v:=?_) rfl (by kernel_rfl) (by kernel_rfl) (by kernel_rfl) (fun _ _ _ h=>h) (Or.inl ⟨by rfl,?_⟩) hHeld ?_
 rotate_left 1
 ·(intro W hW;have k0:=(HK.out _ hW);(try dsimp only at hW);go_simp;try with_reducible rfl)
 try simp only [Act.put,List.setIfInBounds_toArray,List.set_cons_zero,List.set_cons_succ]
 refine wpAnyH_ready (rs:=[1]) (by kernel_rfl) (by simp) ?_
 refine AllReadyH.cons (o:={ dst:=some 6,op:=Op.call { callee:=Callee.value (Operand.func 38),args:=#[Operand.tmp 5],argTypes:=#[27] },type:=78,pos:=_,after:=_,guard:=none }) rfl (fun K hK=>?_) AllReadyH.nil
 go_simp
 refine (HHE.out _ hHeld).mono ?_
 rintro e W1 ⟨A1,n1,c1,rfl,hn1,hr1,hb1⟩
 have HB1:Hid (Below w.heap.size w W1):=Lib.hid (hHeld.trans (hb1.mono hHeld.size))
 have HF1:=Lib.hid (free_yes W1 A1 c1 n1 (heldN ns) hn1 hr1 HSM.out m HRO.out (hasB (heldN ns)) (fun x=>by rw [←hn1];exact hasB_iff _ x))
 clear hn1 hr1 hb1
 go_simp
 refine hK.out _ _ (HB1.out) (fun _=>?_)
 clear hK K hHeld
 try simp only [Act.put,List.setIfInBounds_toArray,List.set_cons_zero,List.set_cons_succ]
 have hHeld:(fun W=>Below w.heap.size w W) W1:=HB1.out
 refine wpAnyH_ready (rs:=[6]) (by kernel_rfl) (by simp) ?_
 refine AllReadyH.cons (o:={ dst:=some 11,op:=Op.call { callee:=Callee.value (Operand.func 34),args:=#[Operand.tmp 10],argTypes:=#[23] },type:=3,pos:=_,after:=_,guard:=none }) rfl (fun K hK=>?_) AllReadyH.nil
 go_simp
 refine (HJM.out _ hHeld).mono ?_
 rintro e wq ⟨rfl,rfl⟩
 go_simp
 refine hK.out _ _ hHeld (fun _=>?_)
 clear hK K
 try simp only [Act.put,List.setIfInBounds_toArray,List.set_cons_zero,List.set_cons_succ]
 refine wpAnyH_ready (rs:=[7]) (by kernel_rfl) (by simp) ?_
 refine AllReadyH.cons (o:={ dst:=some 12,op:=Op.call { callee:=Callee.value (Operand.func 56),args:=#[Operand.tmp 6,Operand.tmp 11],argTypes:=#[78,3] },type:=59,pos:=_,after:=_,guard:=none }) rfl (fun K hK=>?_) AllReadyH.nil
 go_simp
 refine HF1.out.mono ?_
 rintro e W2 ⟨A2,c2,n2,rfl,hn2,ho2,hb2⟩
 have HB2:Hid (Below w.heap.size w W2):=Lib.hid (HB1.out.trans (hb2.mono HB1.out.size))
 have HN2:=Lib.hid hn2
 clear hn2 ho2 hb2
 go_simp
 refine hK.out _ _ (HB2.out) (fun _=>?_)
 clear hK K hHeld
 try simp only [Act.put,List.setIfInBounds_toArray,List.set_cons_zero,List.set_cons_succ]
 have hHeld:(fun W=>Below w.heap.size w W) W2:=HB2.out
 refine wpAnyH_take (i:=8) (oi:={ dst:=some 13,op:=Op.call { callee:=Callee.builtin Builtin.len,args:=#[Operand.tmp 12],argTypes:=#[59] },type:=3,pos:=_,after:=_,guard:=none }) (v:=?_) rfl (by kernel_rfl) (by kernel_rfl) (by kernel_rfl) (fun _ _ _ h=>h) (Or.inl ⟨by rfl,?_⟩) hHeld ?_
 rotate_left 1
 ·(intro W hW;(try dsimp only at hW);go_simp;try with_reducible rfl)
 try simp only [Act.put,List.setIfInBounds_toArray,List.set_cons_zero,List.set_cons_succ]
 refine wpAnyH_take (i:=9) (oi:={ dst:=some 2,op:=Op.assign (Operand.tmp 13),type:=3,pos:=_,after:=_,guard:=none }) (v:=?_) rfl (by kernel_rfl) (by kernel_rfl) (by kernel_rfl) (fun _ _ _ h=>h) (Or.inl ⟨by rfl,?_⟩) hHeld ?_
 rotate_left 1
 ·(intro W hW;(try dsimp only at hW);go_simp;try with_reducible rfl)
 try simp only [Act.put,List.setIfInBounds_toArray,List.set_cons_zero,List.set_cons_succ]
 refine wpAnyH_done (by kernel_rfl) ?_ _
 refine NoPanic.normal ?_
 go_simp
 go_wp2_with fail
 go_ret
 have hln:leftN s ns=n2:=by unfold leftN;rw [←HMM.out,HN2.out]
 exact ⟨by rw [hln];rfl,HB2.out⟩
end
end Go.Proofs.YtnedpkhehiijhaaGreat
namespace Go.Proofs.YtnedpkhehiijhaaGreat
open Go.RowKit
set_option linter.unusedVariables false
set_option linter.unusedSimpArgs false
attribute [local go_sem ↓] Go.wp_at_zero Go.wp_at_succ

def bcs (us:List Bool):List Value:=us.map Value.bool
def pcs (ns:List Nd) (us:List Bool) (fA:Option Addr) (fn fc:Nat) (wA:Option Addr) (wn wc:Nat):List Value:=ncs ns ++ (bcs us ++ [.slice fA fn fc,.slice wA wn wc])
/-- A plan lies so: the nodes, the slots had, the places to be given, the writes. -/
structure PlanAt (w:World) (gp:Nat) (ns:List Nd) (us:List Bool) (fA:Option Addr) (fn fc:Nat) (wA:Option Addr) (wn wc:Nat):Prop where
 n40:ns.length=40
 u40:us.length=40
 hd:Holds w gp 99 (pcs ns us fA fn fc wA wn wc).toArray
section
variable {w w':World} {gp:Nat} {ns:List Nd} {us:List Bool} {fA:Option Addr} {fn fc:Nat} {wA:Option Addr} {wn wc:Nat}
theorem PlanAt.under (h:PlanAt w gp ns us fA fn fc wA wn wc) (hb:Below w.heap.size w w'):PlanAt w' gp ns us fA fn fc wA wn wc:=⟨h.n40,h.u40,h.hd.under hb h.hd.lt⟩
theorem PlanAt.ncsl (h:PlanAt w gp ns us fA fn fc wA wn wc):(ncs ns).length=120:=by rw [ncs_len,h.n40]
theorem PlanAt.bcsl (h:PlanAt w gp ns us fA fn fc wA wn wc):(bcs us).length=40:=by unfold bcs;rw [List.length_map,h.u40]
theorem PlanAt.nodes (h:PlanAt w gp ns us fA fn fc wA wn wc):w.rangeAt gp 0 (ncs ns):=fun j v hv=>by
 have hj:=(List.getElem?_eq_some_iff.1 hv).1
 rw [h.hd.cell,List.getElem?_toArray,pcs,Nat.zero_add,List.getElem?_append_left hj]
 exact hv
theorem PlanAt.useds (h:PlanAt w gp ns us fA fn fc wA wn wc):w.rangeAt gp 120 (bcs us):=fun j v hv=>by
 have hj:=(List.getElem?_eq_some_iff.1 hv).1
 rw [h.hd.cell,List.getElem?_toArray,pcs,List.getElem?_append_right (by rw [h.ncsl];omega),h.ncsl,Nat.add_sub_cancel_left,List.getElem?_append_left hj]
 exact hv
theorem PlanAt.free (h:PlanAt w gp ns us fA fn fc wA wn wc):w.cell? ⟨gp,160,none⟩=some (.slice fA fn fc):=by
 rw [h.hd.cell,List.getElem?_toArray,pcs,List.getElem?_append_right (by rw [h.ncsl];omega),h.ncsl,List.getElem?_append_right (by rw [h.bcsl];omega),h.bcsl]
 rfl
theorem PlanAt.writes (h:PlanAt w gp ns us fA fn fc wA wn wc):w.cell? ⟨gp,161,none⟩=some (.slice wA wn wc):=by
 rw [h.hd.cell,List.getElem?_toArray,pcs,List.getElem?_append_right (by rw [h.ncsl];omega),h.ncsl,List.getElem?_append_right (by rw [h.bcsl];omega),h.bcsl]
 rfl
theorem PlanAt.give (h:PlanAt w gp ns us fA fn fc wA wn wc) (i:Nat) (hi:i<40):PlanAt (w.setCell ⟨gp,120+i,none⟩ (.bool true)) gp ns (us.set i true) fA fn fc wA wn wc:=by
 refine ⟨h.n40,by rw [List.length_set];exact h.u40,?_⟩
 have:=h.hd.stored (120+i) (.bool true)
 rw [show (pcs ns us fA fn fc wA wn wc).toArray.setIfInBounds (120+i) (.bool true)=(pcs ns (us.set i true) fA fn fc wA wn wc).toArray by
  unfold pcs
  rw [List.setIfInBounds_toArray,List.set_append_right _ _ (by rw [h.ncsl];omega),h.ncsl,Nat.add_sub_cancel_left,List.set_append_left _ _ (by rw [h.bcsl];exact hi)]
  unfold bcs
  rw [List.map_set]] at this
 exact this
theorem size_useds:(Tryz.prog.info? 96).map (·.size)=some 40:=by kernel_rfl
theorem index_used {w:World} {us:List Bool} (h:us.length=40) {i:Nat} (hi:i<40) (b:Bool) (hb:us.getD i false=b) :
  (Instr.index 96 (.agg (bcs us).toArray) (.int .i64 (i:Int))).run Tryz.prog w = .ok (.bool b) w:=by
 have hsz:(sizeOf 4).run Tryz.prog w = .ok 1 w:=Tryz.sizeOf4 w
 have hag:(isAgg 4).run Tryz.prog w = .ok false w:=Tryz.isAgg4 w
 have h0:(0:Int)≤(i:Int)∧(i:Int)<(40:Nat):=by omega
 have hat:(bcs us).toArray[i*1]?=some (.bool b):=by
  rw [Nat.mul_one,List.getElem?_toArray]
  unfold bcs
  rw [List.getElem?_map,←hb]
  simp [List.getD,h,hi]
 have hpt:(Go.part 4 (bcs us).toArray (i*1)).run Tryz.prog w = .ok (.bool b) w:=by
  unfold Go.part
  rw [Sem.run_bind,hag]
  simp only [Result.andThen_ok,if_false,hat]
  rfl
 unfold Instr.index
 simp only [asIntOf,Sem.run_bind,Sem.run_pure,Result.andThen_ok,run_underlying Tryz.underlying96 w]
 rw [if_pos h0]
 simp only [Sem.run_bind,hsz,Result.andThen_ok,Int.toNat_natCast]
 exact hpt
/-- The first slot that nobody has. -/
def firstU:List Bool→Nat→Option Nat
 | [],_=>none
 | u :: us,k=>if u=true then firstU us (k+1) else some k
def giveI (us:List Bool):Int:=match firstU us 0 with | none=>-1 | some i=>(i:Int)
end
end Go.Proofs.YtnedpkhehiijhaaGreat
namespace Go.Proofs.YtnedpkhehiijhaaGreat
open Go.RowKit
set_option linter.unusedVariables false
set_option linter.unusedSimpArgs false
attribute [local go_sem ↓] Go.wp_at_zero Go.wp_at_succ

theorem firstU_drop {us:List Bool} {k:Nat} (h:k<us.length):firstU (us.drop k) k=if us.getD k false=true then firstU (us.drop (k+1)) (k+1) else some k:=by
 rw [List.drop_eq_getElem_cons h]
 have e:us.getD k false=us[k]:=by simp [List.getD,h]
 rw [e]
 rfl
section
variable {w:World} {gp:Nat} {ns:List Nd} {us:List Bool} {fA:Option Addr} {fn fc:Nat} {wA:Option Addr} {wn wc:Nat}
set_option maxRecDepth 100000 in
set_option maxHeartbeats 8000000 in
theorem give_any (h:PlanAt w gp ns us fA fn fc wA wn wc) :
  Calls Tryz.prog 114 #[.pointer (some ⟨gp,0,none⟩)] w fun e w'=>(firstU us 0=none∧e = .returned (.int .i64 (-1))∧w'=w)∨∃ i,firstU us 0=some i∧i<40∧us.getD i false=false∧e = .returned (.int .i64 (i:Int))∧w'=w.setCell ⟨gp,120+i,none⟩ (.bool true):=by
 have HRG:=Lib.hid h.useds
 have HSZ:Hid ((Tryz.prog.info? 96).map (·.size)=some (bcs us).length):=Lib.hid (by rw [size_useds,h.bcsl])
 have HIX:Hid (∀ k,k<40→∀ b,us.getD k false=b→(Instr.index 96 (.agg (bcs us).toArray) (.int .i64 ((k:Nat):Int))).run Tryz.prog w = .ok (.bool b) w):=Lib.hid fun k hk b hb=>index_used h.u40 hk b hb
 have HU:=Lib.hid h.u40
 have HC:Hid (∀ k,k<40→w.cell? ⟨gp,120+k,none⟩=some (.bool (us.getD k false))∧w.frozen? ⟨gp,120+k,none⟩=false):=Lib.hid fun k hk=>⟨h.useds k _ (by unfold bcs;rw [List.getElem?_map];simp [List.getD,h.u40,hk]),h.hd.open_ _⟩
 clear h
 go_enter Tryz.func114,Tryz.ntmps114
 go_wp2_with (first | (refine wpList_load_mid rfl 96 (.tmp 7) rfl gp 120 rfl (bcs us) _ HRG.out Tryz.underlying96 rfl HSZ.out ?_) | fail)
 obtain ⟨AG,hAG⟩:∃ AG,AG=(bcs us).toArray:=⟨_,rfl⟩
 rw [←hAG] at HIX ⊢
 clear hAG HRG HSZ
 go_loopw [9] (fun si wr=>∃ k:Nat,k≤40∧si = .int .i64 (k:Int)∧firstU us 0=firstU (us.drop k) k∧wr=w) (fun si _=>40 - (intOf si).toNat)
 case atStart=>exact ⟨0,by omega,rfl,rfl,rfl⟩
 case round =>
  obtain ⟨k,hk,rfl,hf,rfl⟩:=hrel
  have HF:=Lib.hid hf
  clear hf
  by_cases hlt:k<40
  case pos =>
   have hkI:(k:Int)<40:=by omega
   have hk0:(0:Int)≤(k:Int):=by omega
   have hkw:IntKind.i64.wrap ((k:Int)+1)=(k:Int)+1:=IntWalk.i64_in _ (by omega)
   have hkn:((k:Int)).toNat=k:=by omega
   have HFD:=Lib.hid (firstU_drop (us:=us) (k:=k) (by rw [HU.out];exact hlt))
   obtain ⟨b,hb⟩:∃ b,us.getD k false=b:=⟨_,rfl⟩
   have hix:=HIX.out k hlt b hb
   obtain ⟨hc1,hc2⟩:=HC.out k hlt
   rw [hb] at hc1
   have HB:=Lib.hid hb
   clear hb
   cases b with
   | true =>
    clear hc1 hc2
    go_wp2_with fail
    go_roundw
    case rel=>exact ⟨k+1,by omega,by go_num,by rw [HF.out,HFD.out,if_pos HB.out],trivial⟩
    case measure=>simp [intOf];omega
   | false =>
    go_wp2_with fail
    go_ret
    exact .inr ⟨k,by rw [HF.out,HFD.out,if_neg (by rw [HB.out];decide)],hlt,HB.out,rfl,by simp⟩
  case neg =>
   obtain rfl:k=40:=by omega
   have hkI:¬ (((40:Nat):Int)<40):=by omega
   go_wp2_with fail
   go_ret
   exact .inl ⟨by rw [HF.out,List.drop_of_length_le (by rw [HU.out];exact Nat.le_refl _)];rfl,rfl,rfl⟩
end
end Go.Proofs.YtnedpkhehiijhaaGreat
namespace Go.Proofs.YtnedpkhehiijhaaGreat
open Go.RowKit
set_option linter.unusedVariables false
set_option linter.unusedSimpArgs false
attribute [local go_sem ↓] Go.wp_at_zero Go.wp_at_succ

theorem info_writeF:(Tryz.prog.info? 132).map (fun i=>(i.zero,i.size,i.bytes))=some (some (.agg #[.int .i64 0,.slice none 0 0]),2,32):=by kernel_rfl
theorem fsfiles_any (w:World) (gf:Nat):Calls Tryz.prog 53 #[.pointer (some ⟨gf,0,none⟩)] w fun e w'=>e = .returned (.func (.func 99) #[] #[.pointer (some ⟨w.heap.size,0,none⟩)])∧w'=w.alloc (.cells #[.pointer (some ⟨gf,0,none⟩)] 27):=by
 go_enter Tryz.func53,Tryz.ntmps53
 go_wp2_with fail
 go_ret
 exact ⟨rfl,rfl⟩
section
variable {w:World} {gp:Nat} {ns:List Nd} {us:List Bool} {fA:Option Addr} {fn fc:Nat} {wA:Option Addr} {wn wc:Nat}
theorem PlanAt.wrote (h:PlanAt w gp ns us fA fn fc wA wn wc) (A:Option Addr) (n c:Nat):PlanAt (w.setCell ⟨gp,161,none⟩ (.slice A n c)) gp ns us fA fn fc A n c:=by
 refine ⟨h.n40,h.u40,?_⟩
 have:=h.hd.stored 161 (.slice A n c)
 rw [show (pcs ns us fA fn fc wA wn wc).toArray.setIfInBounds 161 (.slice A n c)=(pcs ns us fA fn fc A n c).toArray by
  unfold pcs
  rw [List.setIfInBounds_toArray,List.set_append_right _ _ (by rw [h.ncsl];omega),h.ncsl,List.set_append_right _ _ (by rw [h.bcsl];omega),h.bcsl]
  rfl] at this
 exact this
/-- What a write leaves. -/
def WrP (w:World) (gp:Nat) (ns:List Nd) (us:List Bool) (fA:Option Addr) (fn fc:Nat) (wA:Option Addr) (wn:Nat) (l:List Wr) (at_:Int) (b:List Nat) (e:Ending) (w':World):Prop :=
 e = .returned (.tuple #[])∧∃ g' c' g,PlanAt w' gp ns us fA fn fc (some ⟨g',0,none⟩) (wn+1) c'∧w.heap.size≤g∧Row .u8 5 w' g (secOf b)∧OwnV 132 2 w' (some ⟨g',0,none⟩) c' (wn+1) ((l ++ [(⟨at_,some ⟨g,0,none⟩,64,secOf b⟩:Wr)]).flatMap wrCells) ∧
  (blockOf wA=some g'∨w.heap.size≤g')∧g'≠g∧g'≠gp∧Only (fun k=>k=gp∨blockOf wA=some k) w w'
set_option maxRecDepth 100000 in
set_option maxHeartbeats 8000000 in
theorem write_any (h:PlanAt w gp ns us fA fn fc wA wn wc) (l:List Wr) (hl:l.length=wn) (ho:OwnV 132 2 w wA wc wn (l.flatMap wrCells)) (hne:blockOf wA≠some gp) (hwn:wn≤8000) (at_:Int) (A:Option Addr) (c n:Nat) (b:List Nat) (hn:b.length=n) (h64:n≤64) (h0:0<n) (hr:Rd .u8 w w.heap.size A c b) :
  Calls Tryz.prog 87 #[.pointer (some ⟨gp,0,none⟩),.int .i64 at_,.slice A n c] w (WrP w gp ns us fA fn fc wA wn l at_ b):=by
 obtain ⟨R,hR⟩:∃ R,R=List.replicate 64 0:=⟨_,rfl⟩
 have hmk:=make_bytes 64 64 rfl (by omega) w
 rw [←hR] at hmk
 have hs:=secOf_short (l:=b) (by omega)
 obtain ⟨W1,hW1⟩:∃ W1,W1=w.alloc (.cells (nums .u8 R) 5):=⟨_,rfl⟩
 rw [←hW1] at hmk
 have hb1:Below w.heap.size w W1:=by rw [hW1];exact (Below.refl _ _).alloc (Nat.le_refl _) _
 have hz1:W1.heap.size=w.heap.size+1:=by rw [hW1];simp
 have hg1:W1.heap[w.heap.size]?=some (.cells (nums .u8 R) 5 (0,0)):=by rw [hW1];exact Holds.fresh w 5 (nums .u8 R)
 obtain ⟨ad,rfl,hsrc⟩:=vals_fromF (hr.under hb1) (by omega)
 have hRl:R.length=64:=by rw [hR,List.length_replicate]
 obtain ⟨W2,hW2⟩:∃ W2,W2=W1.setRow w.heap.size ((nums .u8 R).toList.take 0 ++ (vals .u8 b ++ (nums .u8 R).toList.drop (0+n))).toArray:=⟨_,rfl⟩
 have HW2:=Lib.hid hW2
 have hb2:Below w.heap.size w W2:=by rw [hW2];exact below_setRow hb1 (Nat.le_refl _) _
 have hz2:W2.heap.size=w.heap.size+1:=by rw [hW2,size_setRow,hz1]
 have HROW:Hid (Row .u8 5 W2 w.heap.size (secOf b)):=Lib.hid (by
  have:=setRow_heap W1 w.heap.size _ ((nums .u8 R).toList.take 0 ++ (vals .u8 b ++ (nums .u8 R).toList.drop (0+n))).toArray _ _ hg1
  rw [←hW2] at this
  unfold Row Holds
  rw [this,hs,hR,hn]
  unfold nums vals zsec
  simp [List.drop_replicate])
 have HP2:Hid (PlanAt W2 gp ns us fA fn fc wA wn wc):=Lib.hid (h.under hb2)
 have HO2:Hid (OwnV 132 2 W2 wA wc wn (l.flatMap wrCells)):=Lib.hid (ho.keep fun g _ hg=>hb2.block g hg)
 have hplt:=h.hd.lt
 obtain ⟨V,hV⟩:∃ V,V=W2.alloc (.cells #[.int .i64 at_,.slice (some ⟨w.heap.size,0,none⟩) 64 64] 132):=⟨_,rfl⟩
 have HV:=Lib.hid hV
 have hb3:Below W2.heap.size W2 V:=by rw [hV];exact (Below.refl _ _).alloc (Nat.le_refl _) _
 have HB3:Hid (Below W2.heap.size W2 V):=Lib.hid hb3
 have HPV:Hid (PlanAt V gp ns us fA fn fc wA wn wc):=Lib.hid (HP2.out.under hb3)
 have HOV:Hid (OwnV 132 2 V wA wc wn (l.flatMap wrCells)):=Lib.hid (HO2.out.keep fun g _ hg=>hb3.block g hg)
 have HFX:Hid (Holds V (w.heap.size+1) 132 (wrCells ⟨at_,some ⟨w.heap.size,0,none⟩,64,secOf b⟩).toArray):=Lib.hid (by
  rw [←hz2,hV]
  unfold wrCells
  dsimp only
  rw [secOf_length]
  exact Holds.fresh _ _ _)
 have HWC:Hid (∀ u∈wrCells ⟨at_,some ⟨w.heap.size,0,none⟩,64,secOf b⟩,u.oneCell'=true):=Lib.hid (by intro u hu;simp [wrCells] at hu;rcases hu with rfl | rfl <;> rfl)
 have HSRC:=Lib.hid hsrc
 have HG1:=Lib.hid hg1
 have HN:=Lib.hid hn
 have HRL:=Lib.hid hRl
 have HB2:=Lib.hid hb2
 have HW1:=Lib.hid hW1
 have HHO:=Lib.hid ho
 have HSZ8:Hid ((Tryz.prog.info? 5).map (·.size)=some 1):=Lib.hid (by kernel_rfl)
 have k1:=HP2.out.writes
 have hfz:=HP2.out.hd.open_
 have hcp:=run_copy_row (P:=Tryz.prog) W1 44 44 3 5 w.heap.size 0 64 64 ad n c (nums .u8 R) 5 (vals .u8 b) Tryz.underlying44 HSZ8.out hg1 (by rw [vals_length,hn];show n=min n 64;omega) hsrc (by rw [vals_length,hn];simp [nums,hRl];omega) (vals_one _ _)
 rw [vals_length,hn,List.append_assoc,←hW2] at hcp
 clear hr ho hsrc hs h hg1 hn hRl hb2 hW1 hV hb3 hR hW2 hz1 hb1
 go_enter Tryz.func87,Tryz.ntmps87
 go_wp2_with (first | (at_builtin;rw [←HV.out];refine wpList_pushV _ rfl (.tmp 15) (.tmp 19) 97 rfl 132 (.agg #[.int .i64 0,.slice none 0 0]) 2 32 Tryz.underlying97 info_writeF rfl (by omega) (by omega) rfl HOV.out (cs:=wrCells ⟨at_,some ⟨w.heap.size,0,none⟩,64,secOf b⟩) rfl rfl HWC.out HFX.out (by omega) ?_;intro g9 c9 W9 ho9 hg9 hat9 hlt9;have hp9:PlanAt W9 gp ns us fA fn fc wA wn wc:=⟨HPV.out.n40,HPV.out.u40,HPV.out.hd.grown hg9 (Ne.symm hne)⟩;have k9:=hp9.writes;have f9:=hp9.hd.open_) | fail)
 go_end0
 have hsv:=HB3.out.size
 have hgw:∀ g,blockOf wA=some g→g<w.heap.size:=fun g hg=>(HHO.out.lt hg)
 have h9:blockOf wA=some g9∨w.heap.size+2≤g9:=by
  rcases hat9 with e | e
  ·exact .inl e
  ·rw [e,HV.out];right;simp;omega
 have hg9p:g9≠gp:=by
  rintro rfl
  rcases h9 with e | e
  ·exact hne e
  ·omega
 have hg9g:g9≠w.heap.size:=by
  rintro rfl
  rcases h9 with e | e
  ·have:=hgw _ e;omega
  ·omega
 refine ⟨rfl,g9,c9,w.heap.size,hp9.wrote _ _ _,Nat.le_refl _,?_,?_,h9.imp id (fun e=>by omega),hg9g,hg9p,?_⟩
 ·have h1:Row .u8 5 V w.heap.size (secOf b):=Holds.under HROW.out HB3.out (by rw [hz2];omega)
  have h2:Row .u8 5 W9 w.heap.size (secOf b):=Holds.grown h1 hg9 (fun e=>by have:=hgw _ e.symm;omega)
  exact Holds.aside h2 (by show w.heap.size≠gp;omega) _
 ·rw [List.flatMap_append]
  have:OwnV 132 2 W9 (some ⟨g9,0,none⟩) c9 (wn+1) (l.flatMap wrCells ++ [(⟨at_,some ⟨w.heap.size,0,none⟩,64,secOf b⟩:Wr)].flatMap wrCells):=by simpa using ho9
  exact this.keep fun g hgq hg=>by
   obtain rfl:g9=g:=by simpa [blockOf] using hgq
   exact Below.heap_setCell _ ⟨gp,161,none⟩ _ _ hg9p
 ·have hbV:Below w.heap.size w V:=HB2.out.trans (HB3.out.mono HB2.out.size)
  refine Only.setCell ⟨hg9.os.trans hbV.os,hg9.tape.trans hbV.tape,hg9.output.trans hbV.output,Nat.le_trans hbV.size hg9.size,fun k hk hF=>?_⟩ (.inl (.inl rfl)) _
  rw [hg9.block k (Nat.lt_of_lt_of_le hk hbV.size) (fun e=>hF (.inr e.symm)),hbV.block k hk]
end
end Go.Proofs.YtnedpkhehiijhaaGreat
