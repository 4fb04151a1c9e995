/- Words and laws for the statement, part 2. -/
import Derived.Deep.AppendSrc
import Derived.OwnWalk
import Derived.Deep.Upon
import Derived.BigRegion
import Derived.Deep.RegionLaw
import Derived.Laws.IdiomStrings
import Derived.Laws.BytesArg
import Derived.Lib.Strings
import Derived.Lib.SlBytesConst
import Derived.Lib.SmallJoins
import Derived.Deep.DrawnRows
import Derived.Deep.RegionHeld3
import Derived.Test.YtnedpkhehiijhaaGreatQ01
namespace Go.Proofs.YtnedpkhehiijhaaGreat
open Go.RowKit
set_option linter.unusedVariables false

/-- The first k of what waits, taken back. -/
def backN (L:List (List Nat)) (W:List (Nat×List Nat)) (now:List (List Nat)):Nat→List (List Nat)
 | 0=>now
 | k+1=>(backN L W now k).set (W.getD k default).1 (L.getD (W.getD k default).1 [])
theorem backN_length (L:List (List Nat)) (W:List (Nat×List Nat)) (now:List (List Nat)):∀ k,(backN L W now k).length=now.length
 | 0=>rfl
 | k+1=>by rw [backN,List.length_set,backN_length L W now k]

theorem DiskAt.drew {w:World} {gd gn gl:Nat} {A:Option Addr} {cw:Nat} {K:Option Addr} {ck:Nat} {s:Dk} (h:DiskAt w gd gn gl A cw K ck s):DiskAt w.drew gd gn gl A cw K ck s:=h.keepAll (Nat.le_refl _) fun _ _ _=>rfl
theorem DiskAt.drewN {w:World} {gd gn gl:Nat} {A:Option Addr} {cw:Nat} {K:Option Addr} {ck:Nat} {s:Dk} (h:DiskAt w gd gn gl A cw K ck s) (n:Nat):DiskAt (w.drewN n) gd gn gl A cw K ck s:=h.keepAll (Nat.le_refl _) fun _ _ _=>rfl
/-- A sector of what Read tells, stored. -/
theorem DiskAt.setNow {W:World} {gd gn gl:Nat} {A:Option Addr} {cw:Nat} {K:Option Addr} {ck:Nat} {s:Dk} (hh:DiskAt W gd gn gl A cw K ck s) {i:Nat} (hi:i<s.now.length) {x:List Nat} (hx:x.length=64) :
  DiskAt (W.setCells gn (i*64) (vals .u8 x)) gd gn gl A cw K ck { s with now:=s.now.set i x }:={
  hd:=by
   have e:=(setCells_aside (g:=gn) (k:=gd) hh.dn (vals .u8 x) (i*64) W).trans hh.hd
   show Holds _ gd _ (dcells gn gl (s.now.set i x).length A s.waits.length cw s.ops s.armed s.at_ K s.keep.length ck s.down)
   rw [List.length_set];exact e
  hn:=Sect.store (w:=W) hh.hn hi hx
  hl:=hh.hl.keep (setCells_aside (fun e=>hh.nl e.symm) _ _ _)
  len:=by show s.lasts.length=(s.now.set i x).length;rw [List.length_set];exact hh.len
  hw:=hh.hw.keep fun g hg=>setCells_aside (fun e=>hh.ad.2.1 (by rw [hg,e])) _ _ _
  hk:=hh.hk.keep (by rw [setCells_size];exact Nat.le_refl _) fun g hg _=>setCells_aside (fun e=>hh.kd.2.1 (by rw [hg,e])) _ _ _
  dn:=hh.dn
  dl:=hh.dl
  nl:=hh.nl
  ad:=hh.ad
  kd:=hh.kd
  kw:=fun g hg=>by rw [setCells_size];exact hh.kw g hg
  n1:=by show 1≤(s.now.set i x).length;rw [List.length_set];exact hh.n1
  n2:=by show (s.now.set i x).length≤2000;rw [List.length_set];exact hh.n2
  wat:=fun p hp=>by show p.1<(s.now.set i x).length;rw [List.length_set];exact hh.wat p hp }
/-- A sector of what lasts, stored. -/
theorem DiskAt.setLast {W:World} {gd gn gl:Nat} {A:Option Addr} {cw:Nat} {K:Option Addr} {ck:Nat} {s:Dk} (hh:DiskAt W gd gn gl A cw K ck s) {i:Nat} (hi:i<s.now.length) {x:List Nat} (hx:x.length=64) :
  DiskAt (W.setCells gl (i*64) (vals .u8 x)) gd gn gl A cw K ck { s with lasts:=s.lasts.set i x }:={
  hd:=(setCells_aside (g:=gl) (k:=gd) hh.dl (vals .u8 x) (i*64) W).trans hh.hd
  hn:=hh.hn.keep (setCells_aside hh.nl _ _ _)
  hl:=Sect.store (w:=W) hh.hl (by rw [hh.len];exact hi) hx
  len:=by show (s.lasts.set i x).length=s.now.length;rw [List.length_set];exact hh.len
  hw:=hh.hw.keep fun g hg=>setCells_aside (fun e=>hh.ad.2.2 (by rw [hg,e])) _ _ _
  hk:=hh.hk.keep (by rw [setCells_size];exact Nat.le_refl _) fun g hg _=>setCells_aside (fun e=>hh.kd.2.2.1 (by rw [hg,e])) _ _ _
  dn:=hh.dn
  dl:=hh.dl
  nl:=hh.nl
  ad:=hh.ad
  kd:=hh.kd
  kw:=fun g hg=>by rw [setCells_size];exact hh.kw g hg
  n1:=hh.n1
  n2:=hh.n2
  wat:=hh.wat }
/-- Nothing waits any more. -/
theorem DiskAt.emptied {w:World} {gd gn gl:Nat} {A:Option Addr} {cw:Nat} {K:Option Addr} {ck:Nat} {s:Dk} (h:DiskAt w gd gn gl A cw K ck s) :
  DiskAt (w.setCell ⟨gd,2,none⟩ (.slice none 0 0)) gd gn gl none 0 K ck { s with waits:=[] }:=by
 have k:∀ g,g≠gd→(w.setCell ⟨gd,2,none⟩ (.slice none 0 0)).heap[g]?=w.heap[g]?:=fun g hne=>Below.heap_setCell w ⟨gd,2,none⟩ _ g hne
 have hsz:(w.setCell ⟨gd,2,none⟩ (.slice none 0 0)).heap.size=w.heap.size:=by simp [World.setCell]
 exact {
  hd:=Holds.stored h.hd 2 (.slice none 0 0)
  hn:=h.hn.keep (k gn fun e=>h.dn e.symm)
  hl:=h.hl.keep (k gl fun e=>h.dl e.symm)
  len:=h.len
  hw:=Waits.nil _
  hk:=h.hk.keep (Nat.le_of_eq hsz.symm) fun g hg _=>k g fun e=>h.kd.1 (by rw [hg,e])
  dn:=h.dn
  dl:=h.dl
  nl:=h.nl
  ad:=by simp [blockOf]
  kd:=⟨h.kd.1,h.kd.2.1,h.kd.2.2.1,fun g hg=>by simp [blockOf]⟩
  kw:=fun g hg=>by rw [hsz];exact h.kw g hg
  n1:=h.n1
  n2:=h.n2
  wat:=fun p hp=>by cases hp }

def RelF (w:World) (gd gn gl:Nat) (A:Option Addr) (cw:Nat) (K:Option Addr) (ck:Nat) (s:Dk) (m:Nat) (i:Value) (wr:World):Prop :=
 ∃ k:Nat,k≤m∧i = .int .i64 k∧DiskAt wr gd gn gl A cw K ck { s with now:=backN s.lasts s.waits s.now k }∧Only (fun g=>g=gn) w wr

set_option maxRecDepth 100000 in
set_option maxHeartbeats 4000000 in
theorem forget_any (w:World) (gd gn gl:Nat) (A:Option Addr) (cw:Nat) (K:Option Addr) (ck:Nat) (s:Dk) (h:DiskAt w gd gn gl A cw K ck s) (hwl:s.waits.length≤100000) :
  Calls Tryz.prog 52 #[.pointer (some ⟨gd,0,none⟩)] w fun e w'=>e = .returned (.tuple #[])∧DiskAt w' gd gn gl none 0 K ck { s with now:=backN s.lasts s.waits s.now s.waits.length,waits:=[] }∧Only (fun g=>g=gd∨g=gn) w w':=by
 have c2:w.cell? ⟨gd,2,none⟩=some (.slice A s.waits.length cw):=h.hd.cell 2
 have HH:=Lib.hid h
 have HLE:=Lib.hid h.hw.le
 have hnc:s.waits.length≤cw:=h.hw.le.1
 clear h
 go_enter Tryz.func52,Tryz.ntmps52
 obtain ⟨m,hm⟩:∃ m,m=s.waits.length:=⟨_,rfl⟩
 have HM:=Lib.hid hm
 rw [←hm] at c2 hwl hnc
 clear hm
 go_wp2_with fail
 clear c2
 go_loopw [9] (fun i wr=>RelF w gd gn gl A cw K ck s m i wr) (fun i _=>m - (intOf i).toNat)
 case atStart=>exact ⟨0,Nat.zero_le _,rfl,HH.out,Only.refl _ _⟩
 case round =>
  obtain ⟨k,hk,rfl,hd,ho⟩:=hrel
  obtain ⟨V,hV⟩:∃ V,V=wr:=⟨_,rfl⟩
  subst hV
  by_cases hkm:k<m
  case pos =>
   have hkw:k<s.waits.length:=by have:=HM.out;omega
   obtain ⟨p,hp⟩:∃ p,s.waits[k]?=some p:=⟨_,List.getElem?_eq_getElem hkw⟩
   obtain ⟨g,rfl,hg,hr⟩:=hd.hw.range hp
   have hk0:(0:Int)≤(k:Int):=by omega
   have hkI:(k:Int)<(m:Int):=by omega
   have hp64:=hd.hw.len p (List.mem_of_getElem? hp)
   have HW65:=wcell_length hp64
   have hzv:=zero_wait.1
   have hh1:Holds (V.alloc (.cells zwait 165)) V.heap.size 165 zwait:=Holds.fresh V _ _
   have hlz:(wcell p).length=zwait.size:=by rw [HW65,zwait_size]
   have hst:=store_over (P:=Tryz.prog) _ _ _ zwait hh1 (wcell p) hlz (wcell_one p)
   have hh2:=holds_over hh1 (wcell p) hlz
   have ho1:Only (fun _=>False) V (V.alloc (.cells zwait 165)):=(Only.refl _ _).alloc _
   have ho2:=Only.setCells (g:=V.heap.size) (.inr (Nat.le_refl _)) (wcell p) 0 ho1
   have hsw:(Tryz.prog.info? 165).map (·.size)=some (wcell p).length:=by rw [HW65];exact zero_wait.2
   have HH2:=Lib.hid hh2
   have HO2:=Lib.hid ho2
   have HHD:=Lib.hid hd
   have HOF:=Lib.hid ho
   have HP:=Lib.hid hp
   clear hh1 hlz hh2 ho1 ho2 hd ho hp
   generalize zwait=zw at *
   go_wp2_with ((with_reducible refine wpList_load_mid rfl 165 (.tmp 11) rfl g (k*65) rfl (wcell p) _ hr Tryz.underlying165 rfl hsw ?_))
   clear hsw hr hst hzv
   have hh3:=HH2.out
   have ho3:=HO2.out
   have hd3:=HHD.out.keepAll ho3.size (fun g _ hg=>ho3.block g hg (fun e=>e))
   generalize hgV:V.heap.size=gV at *
   have hgV1:=Holds.lt hh3
   clear HH2 HO2
   generalize (V.alloc (.cells zw 165)).setCells gV 0 (wcell p)=V1 at *
   obtain ⟨at',x0⟩:=p
   have hat:at' < (backN s.lasts s.waits s.now k).length:=by rw [backN_length];exact HH.out.wat _ (List.mem_of_getElem? HP.out)
   have hatl:at' < s.lasts.length:=by rw [HH.out.len];rw [backN_length] at hat;exact hat
   obtain ⟨l,hl⟩:∃ l,s.lasts[at']?=some l:=⟨_,List.getElem?_eq_getElem hatl⟩
   have hl64:=hd3.hl.len hl
   have HBK:Hid (backN s.lasts s.waits s.now (k+1)=(backN s.lasts s.waits s.now k).set at' l):=Lib.hid (by
    rw [backN,show s.waits.getD k default=(at',x0) by rw [List.getD,HP.out];rfl]
    show _=(backN s.lasts s.waits s.now k).set at' l
    rw [show s.lasts.getD at' []=l by rw [List.getD,hl];rfl])
   have c0:V1.cell? ⟨gd,0,none⟩=some (.slice (some ⟨gn,0,none⟩) (backN s.lasts s.waits s.now k).length (backN s.lasts s.waits s.now k).length):=hd3.hd.cell 0
   have c1:V1.cell? ⟨gd,1,none⟩=some (.slice (some ⟨gl,0,none⟩) (backN s.lasts s.waits s.now k).length (backN s.lasts s.waits s.now k).length):=hd3.hd.cell 1
   have c3:V1.cell? ⟨gV,0,none⟩=some (.int .i64 (at':Int)):=(hh3.cell 0).trans (by simp [wcell])
   have r1:V1.rangeAt gl (at' * 64) (vals .u8 l):=hd3.hl.range hl
   have hls:(vals .u8 l).length=64:=by rw [vals_length];exact hl64
   have t1:V1.there gn (at' * 64) (vals .u8 l).length:=by rw [hls];exact hd3.hn.there hat
   have hsz:(Tryz.prog.info? 163).map (·.size)=some (vals .u8 l).length:=by rw [hls];exact size_sector
   have hund:=Tryz.underlying163
   have hone:=vals_one .u8 l
   have hi0:(0:Int)≤(at':Int):=by omega
   have hiI:(at':Int)<((backN s.lasts s.waits s.now k).length:Int):=by omega
   have hgvn:gV≠gn:=fun e=>by have:=HHD.out.hn.lt;omega
   have q0:(V1.drew.setCells gn (at' * 64) (vals .u8 l)).cell? ⟨gd,0,none⟩=some (.slice (some ⟨gn,0,none⟩) (backN s.lasts s.waits s.now k).length (backN s.lasts s.waits s.now k).length):=(World.cell?_of_block (a:=⟨gd,0,none⟩) (setCells_aside hd3.dn _ _ _)).trans c0
   have q1:(V1.drew.setCells gn (at' * 64) (vals .u8 l)).cell? ⟨gd,1,none⟩=some (.slice (some ⟨gl,0,none⟩) (backN s.lasts s.waits s.now k).length (backN s.lasts s.waits s.now k).length):=(World.cell?_of_block (a:=⟨gd,1,none⟩) (setCells_aside hd3.dn _ _ _)).trans c1
   have q3:(V1.drew.setCells gn (at' * 64) (vals .u8 l)).cell? ⟨gV,0,none⟩=some (.int .i64 (at':Int)):=(World.cell?_of_block (a:=⟨gV,0,none⟩) (setCells_aside hgvn _ _ _)).trans c3
   have q4:(V1.drew.setCells gn (at' * 64) (vals .u8 l)).rangeAt gl (at' * 64) (vals .u8 l):=World.rangeAt_setCells_apart (w:=V1.drew) r1 gn (at' * 64) _ (.inl fun e=>hd3.nl e.symm)
   have q5:(V1.drew.setCells gn (at' * 64) (vals .u8 l)).there gn (at' * 64) (vals .u8 l).length:=World.there_setCells (w:=V1.drew) t1 gn (at' * 64) _
   have hd4:DiskAt (V1.drew.setCells gn (at' * 64) (vals .u8 l)) gd gn gl (some ⟨g,0,none⟩) cw K ck { s with now:=backN s.lasts s.waits s.now (k+1) }:=by
    rw [HBK.out]
    exact DiskAt.setNow (W:=V1.drew) (s:={ s with now:=backN s.lasts s.waits s.now k }) hd3.drew hat hl64
   have ho4:Only (fun g=>g=gn) w (V1.drew.setCells gn (at' * 64) (vals .u8 l)):=(HOF.out.trans (Only.setCells (F:=fun g=>g=gn) (g:=gn) (.inl rfl) _ _ (ho3.more (F:=fun g=>g=gn) (fun _ _ e=>e.elim)).drew) (fun _ _ e=>e))
   have H0:=Lib.hid q0
   have H1:=Lib.hid q1
   have H3:=Lib.hid q3
   have H4:=Lib.hid q4
   have H5:=Lib.hid q5
   have HD4:=Lib.hid hd4
   have HO4:=Lib.hid ho4
   clear q0 q1 q3 q4 q5 hd4 ho4 hd3 ho3 hh3 hatl hl hl64 hat
   generalize (backN s.lasts s.waits s.now k).length=n at *
   go_region_held3 (fun w'=>w'.cell? ⟨gd,0,none⟩=some (.slice (some ⟨gn,0,none⟩) n n)∧w'.cell? ⟨gd,1,none⟩=some (.slice (some ⟨gl,0,none⟩) n n)∧w'.cell? ⟨gV,0,none⟩=some (.int .i64 (at':Int))∧w'.rangeAt gl (at' * 64) (vals .u8 l)∧w'.there gn (at' * 64) (vals .u8 l).length) (first | exact ⟨c0,c1,c3,r1,t1⟩ | exact ⟨H0.out,H1.out,H3.out,H4.out,H5.out⟩) (fail)
   clear c0 c1 c3 r1 t1 hls hsz hund hone H0 H1 H3 H4 H5
   go_wp2_with fail
   go_roundw
   case rel=>exact ⟨k+1,by omega,by go_num,HD4.out,HO4.out⟩
   case measure=>simp [intOf];omega
  case neg =>
   obtain rfl:k=m:=by omega
   have hkI:¬ ((k:Int)<(k:Int)):=by omega
   have f2:V.frozen? ⟨gd,2,none⟩=false:=hd.hd.open_ 2
   have c2:V.cell? ⟨gd,2,none⟩=some (.slice A s.waits.length cw):=hd.hd.cell 2
   have hf:DiskAt (V.setCell ⟨gd,2,none⟩ (.slice none 0 0)) gd gn gl none 0 K ck { s with now:=backN s.lasts s.waits s.now s.waits.length,waits:=[] }:=by
    rw [←HM.out];exact hd.emptied
   have hof:=(ho.more (F:=fun g=>g=gd∨g=gn) (fun _ _ e=>.inr e)).setCell (p:=⟨gd,2,none⟩) (.inl (.inl rfl)) (.slice none 0 0)
   have HF:=Lib.hid hf
   have HOF:=Lib.hid hof
   clear hf hof hd ho
   go_wp2_with fail
   go_end0
   exact ⟨rfl,HF.out,HOF.out⟩
end Go.Proofs.YtnedpkhehiijhaaGreat
namespace Go.Proofs.YtnedpkhehiijhaaGreat
open Go.RowKit
set_option linter.unusedVariables false

/-- What lasts behind the first k of what waits, those that are kept. -/
def fallN (kp:Nat→Bool) (W:List (Nat×List Nat)) (L:List (List Nat)):Nat→List (List Nat)
 | 0=>L
 | k+1=>if kp k then (fallN kp W L k).set (W.getD k default).1 (W.getD k default).2 else fallN kp W L k
theorem fallN_length (kp:Nat→Bool) (W:List (Nat×List Nat)) (L:List (List Nat)):∀ k,(fallN kp W L k).length=L.length
 | 0=>rfl
 | k+1=>by rw [fallN];split;rw [List.length_set,fallN_length kp W L k];exact fallN_length kp W L k

def RelL (kp:Nat→Bool) (w:World) (gd gn gl:Nat) (A:Option Addr) (cw:Nat) (K:Option Addr) (ck:Nat) (s:Dk) (m:Nat) (i:Value) (wr:World):Prop :=
 ∃ k:Nat,k≤m∧i = .int .i64 k∧DiskAt wr gd gn gl A cw K ck { s with lasts:=fallN kp s.waits s.lasts k }∧Only (fun g=>g=gl) w wr

set_option maxRecDepth 100000 in
set_option maxHeartbeats 4000000 in
theorem flush_ok (w:World) (gd gn gl:Nat) (A:Option Addr) (cw:Nat) (K:Option Addr) (ck:Nat) (s:Dk) (h:DiskAt w gd gn gl A cw K ck s) (hdn:s.down=false) (hdue:(s.armed && decide (s.at_≤(s.ops:Int)))=false) (hwl:s.waits.length≤100000) (hops:s.ops≤1000000000) (kp:Nat→Bool) (hkpa:∀ j,kp j=true) :
  Calls Tryz.prog 105 #[.pointer (some ⟨gd,0,none⟩)] w fun e w'=>e = .returned (.int .i64 0)∧DiskAt w' gd gn gl none 0 K ck { s with lasts:=fallN kp s.waits s.lasts s.waits.length,waits:=[],ops:=s.ops+1 }∧Only (fun g=>g=gd∨g=gl) w w':=by
 have c2:∀ q,(w.drewN q).cell? ⟨gd,2,none⟩=some (.slice A s.waits.length cw):=fun q=>h.hd.cell 2
 have c3:w.cell? ⟨gd,3,none⟩=some (.int .i64 s.ops):=h.hd.cell 3
 have c4:w.cell? ⟨gd,4,none⟩=some (.bool s.armed):=h.hd.cell 4
 have c5:w.cell? ⟨gd,5,none⟩=some (.int .i64 s.at_):=h.hd.cell 5
 have c7:w.cell? ⟨gd,7,none⟩=some (.bool s.down):=h.hd.cell 7
 have HC1:=Lib.hid (down_any w gd _ c7)
 rw [hdn] at HC1
 have HC3:=Lib.hid (due_any w gd _ _ _ c3 c4 c5 false hdue.symm)
 have HH:=Lib.hid h
 have HKP:=Lib.hid hkpa
 have HOPS:=Lib.hid hops
 have hnc:s.waits.length≤cw:=h.hw.le.1
 clear h c3 c4 c5 c7 hdn hdue hkpa hops
 go_enter Tryz.func105,Tryz.ntmps105
 obtain ⟨m,hm⟩:∃ m,m=s.waits.length:=⟨_,rfl⟩
 have HM:=Lib.hid hm
 rw [←hm] at c2 hwl hnc
 clear hm
 go_wp2_with (refine HC1.out.mono ?_;rintro e w1 ⟨rfl,rfl⟩)
 refine HC3.out.mono ?_
 rintro e w1 ⟨rfl,q,rfl⟩
 go_wp2_with fail
 clear c2 HC1 HC3
 go_loopw [16] (fun i wr=>RelL kp w gd gn gl A cw K ck s m i wr) (fun i _=>m - (intOf i).toNat)
 case atStart=>exact ⟨0,Nat.zero_le _,rfl,HH.out.drewN q,(Only.refl _ _).drewN q⟩
 case round =>
  obtain ⟨k,hk,rfl,hd,ho⟩:=hrel
  obtain ⟨V,hV⟩:∃ V,V=wr:=⟨_,rfl⟩
  subst hV
  by_cases hkm:k<m
  case pos =>
   have hkw:k<s.waits.length:=by have:=HM.out;omega
   obtain ⟨p,hp⟩:∃ p,s.waits[k]?=some p:=⟨_,List.getElem?_eq_getElem hkw⟩
   obtain ⟨g,rfl,hg,hr⟩:=hd.hw.range hp
   have hk0:(0:Int)≤(k:Int):=by omega
   have hkI:(k:Int)<(m:Int):=by omega
   have hp64:=hd.hw.len p (List.mem_of_getElem? hp)
   have HW65:=wcell_length hp64
   have hzv:=zero_wait.1
   have hh1:Holds (V.alloc (.cells zwait 165)) V.heap.size 165 zwait:=Holds.fresh V _ _
   have hlz:(wcell p).length=zwait.size:=by rw [HW65,zwait_size]
   have hst:=store_over (P:=Tryz.prog) _ _ _ zwait hh1 (wcell p) hlz (wcell_one p)
   have hh2:=holds_over hh1 (wcell p) hlz
   have ho1:Only (fun _=>False) V (V.alloc (.cells zwait 165)):=(Only.refl _ _).alloc _
   have ho2:=Only.setCells (g:=V.heap.size) (.inr (Nat.le_refl _)) (wcell p) 0 ho1
   have hsw:(Tryz.prog.info? 165).map (·.size)=some (wcell p).length:=by rw [HW65];exact zero_wait.2
   have HH2:=Lib.hid hh2
   have HO2:=Lib.hid ho2
   have HHD:=Lib.hid hd
   have HOF:=Lib.hid ho
   have HP:=Lib.hid hp
   have hh3:=hh2
   have ho3:=ho2
   have hd3:=hd.keepAll ho3.size (fun g _ hg=>ho3.block g hg (fun e=>e))
   have HD3:=Lib.hid hd3
   have HO3:=Lib.hid ho3
   have HH3:=Lib.hid hh3
   clear HH2 HO2 hh1 hlz hh2 ho1 ho2 hd ho hp
   generalize zwait=zw at *
   have hkp:kp k=true:=HKP.out k
   have HKK:=Lib.hid hkp
   clear hkp hh3 ho3 hd3
   go_wp2_with ((with_reducible refine wpList_load_mid rfl 165 (.tmp 18) rfl g (k*65) rfl (wcell p) _ hr Tryz.underlying165 rfl hsw ?_))
   have hh3:=HH3.out
   have ho3:=HO3.out
   have hd3:=HD3.out
   have hkp:=HKK.out
   clear hsw hr hst hzv HH3 HO3 HD3
   generalize hgV:V.heap.size=gV at *
   have hgV1:=Holds.lt hh3
   generalize (V.alloc (.cells zw 165)).setCells gV 0 (wcell p)=V1 at *
   obtain ⟨at',x0⟩:=p
   have hat:at' < s.now.length:=HH.out.wat _ (List.mem_of_getElem? HP.out)
   have hp64':x0.length=64:=hp64
   have HBK:Hid (fallN kp s.waits s.lasts (k+1)=(fallN kp s.waits s.lasts k).set at' x0):=Lib.hid (by
    rw [fallN,show s.waits.getD k default=(at',x0) by rw [List.getD,HP.out];rfl,hkp];rfl)
   have c1:V1.cell? ⟨gd,1,none⟩=some (.slice (some ⟨gl,0,none⟩) s.now.length s.now.length):=hd3.hd.cell 1
   have c3:V1.cell? ⟨gV,0,none⟩=some (.int .i64 (at':Int)):=(hh3.cell 0).trans (by simp [wcell])
   have r1:V1.rangeAt gV 1 (vals .u8 x0):=fun j v hv=>by
    have:=range_of_holds hh3 (j+1) v (by simpa [wcell] using hv)
    rw [show 1+j=0+(j+1) by omega]
    exact this
   have hls:(vals .u8 x0).length=64:=by rw [vals_length];exact hp64'
   have t1:V1.there gl (at' * 64) (vals .u8 x0).length:=by rw [hls];exact hd3.hl.there (by rw [hd3.len];exact hat)
   have hsz:(Tryz.prog.info? 163).map (·.size)=some (vals .u8 x0).length:=by rw [hls];exact size_sector
   have hund:=Tryz.underlying163
   have hone:=vals_one .u8 x0
   have hi0:(0:Int)≤(at':Int):=by omega
   have hiI:(at':Int)<(s.now.length:Int):=by omega
   have hgvn:gV≠gl:=fun e=>by have:=HHD.out.hl.lt;omega
   have q1:(V1.drew.setCells gl (at' * 64) (vals .u8 x0)).cell? ⟨gd,1,none⟩=some (.slice (some ⟨gl,0,none⟩) s.now.length s.now.length):=(World.cell?_of_block (a:=⟨gd,1,none⟩) (setCells_aside hd3.dl _ _ _)).trans c1
   have q3:(V1.drew.setCells gl (at' * 64) (vals .u8 x0)).cell? ⟨gV,0,none⟩=some (.int .i64 (at':Int)):=(World.cell?_of_block (a:=⟨gV,0,none⟩) (setCells_aside hgvn _ _ _)).trans c3
   have q4:(V1.drew.setCells gl (at' * 64) (vals .u8 x0)).rangeAt gV 1 (vals .u8 x0):=World.rangeAt_setCells_apart (w:=V1.drew) r1 gl (at' * 64) _ (.inl hgvn)
   have q5:(V1.drew.setCells gl (at' * 64) (vals .u8 x0)).there gl (at' * 64) (vals .u8 x0).length:=World.there_setCells (w:=V1.drew) t1 gl (at' * 64) _
   have hd4:DiskAt (V1.drew.setCells gl (at' * 64) (vals .u8 x0)) gd gn gl (some ⟨g,0,none⟩) cw K ck { s with lasts:=fallN kp s.waits s.lasts (k+1) }:=by
    rw [HBK.out]
    exact DiskAt.setLast (W:=V1.drew) (s:={ s with lasts:=fallN kp s.waits s.lasts k }) hd3.drew hat hp64'
   have ho4:Only (fun g=>g=gl) w (V1.drew.setCells gl (at' * 64) (vals .u8 x0)):=(HOF.out.trans (Only.setCells (F:=fun g=>g=gl) (g:=gl) (.inl rfl) _ _ (ho3.more (F:=fun g=>g=gl) (fun _ _ e=>e.elim)).drew) (fun _ _ e=>e))
   have H1:=Lib.hid q1
   have H3:=Lib.hid q3
   have H4:=Lib.hid q4
   have H5:=Lib.hid q5
   have HD4:=Lib.hid hd4
   have HO4:=Lib.hid ho4
   clear q1 q3 q4 q5 hd4 ho4 hd3 ho3 hh3 hat hp64 hp64'
   generalize s.now.length=n at *
   go_region_held3 (fun w'=>w'.cell? ⟨gd,1,none⟩=some (.slice (some ⟨gl,0,none⟩) n n)∧w'.cell? ⟨gV,0,none⟩=some (.int .i64 (at':Int))∧w'.rangeAt gV 1 (vals .u8 x0)∧w'.there gl (at' * 64) (vals .u8 x0).length) (first | exact ⟨c1,c3,r1,t1⟩ | exact ⟨H1.out,H3.out,H4.out,H5.out⟩) (fail)
   clear c1 c3 r1 t1 hls hsz hund hone H1 H3 H4 H5
   go_wp2_with fail
   go_roundw
   case rel=>exact ⟨k+1,by omega,by go_num,HD4.out,HO4.out⟩
   case measure=>simp [intOf];omega
  case neg =>
   obtain rfl:k=m:=by omega
   have hkI:¬ ((k:Int)<(k:Int)):=by omega
   have f2:V.frozen? ⟨gd,2,none⟩=false:=hd.hd.open_ 2
   have c2:V.cell? ⟨gd,2,none⟩=some (.slice A s.waits.length cw):=hd.hd.cell 2
   have hf:=hd.emptied
   have hof:=(ho.more (F:=fun g=>g=gd∨g=gl) (fun _ _ e=>.inr e)).setCell (p:=⟨gd,2,none⟩) (.inl (.inl rfl)) (.slice none 0 0)
   have e3:(V.setCell ⟨gd,2,none⟩ (.slice none 0 0)).cell? ⟨gd,3,none⟩=some (.int .i64 s.ops):=hf.hd.cell 3
   have f3:(V.setCell ⟨gd,2,none⟩ (.slice none 0 0)).frozen? ⟨gd,3,none⟩=false:=hf.hd.open_ 3
   have ho0:(0:Int)≤(s.ops:Int):=by omega
   have ho1:(s.ops:Int)≤1000000000:=by have:=HOPS.out;omega
   have HF:Hid (DiskAt ((V.setCell ⟨gd,2,none⟩ (.slice none 0 0)).setCell ⟨gd,3,none⟩ (.int .i64 ((s.ops:Int)+1))) gd gn gl none 0 K ck { s with lasts:=fallN kp s.waits s.lasts k,waits:=[],ops:=s.ops+1 }) :=
    Lib.hid (hf.head 3 _ _ rfl rfl rfl rfl rfl)
   have HOF:=Lib.hid (hof.setCell (p:=⟨gd,3,none⟩) (.inl (.inl rfl)) (.int .i64 ((s.ops:Int)+1)))
   clear hf hof hd ho
   go_wp2_with fail
   go_ret
   exact ⟨rfl,by rw [←HM.out];exact HF.out,HOF.out⟩

set_option maxRecDepth 100000 in
set_option maxHeartbeats 4000000 in
theorem fall_any (w:World) (gd gn gl:Nat) (A:Option Addr) (cw:Nat) (K:Option Addr) (ck:Nat) (s:Dk) (h:DiskAt w gd gn gl A cw K ck s) (hwl:s.waits.length≤100000) (kp:Nat→Bool) (hkpa:∀ j,kp j=s.keep.getD j false) :
  Calls Tryz.prog 122 #[.pointer (some ⟨gd,0,none⟩)] w fun e w'=>e = .returned (.tuple #[])∧DiskAt w' gd gn gl none 0 K ck { s with lasts:=fallN kp s.waits s.lasts s.waits.length,now:=backN (fallN kp s.waits s.lasts s.waits.length) s.waits s.now s.waits.length,waits:=[],down:=true }∧Only (fun g=>g=gd∨g=gn∨g=gl) w w':=by
 have c2:w.cell? ⟨gd,2,none⟩=some (.slice A s.waits.length cw):=h.hd.cell 2
 have HH:=Lib.hid h
 have HKP:=Lib.hid hkpa
 have hnc:s.waits.length≤cw:=h.hw.le.1
 clear h hkpa
 go_enter Tryz.func122,Tryz.ntmps122
 obtain ⟨m,hm⟩:∃ m,m=s.waits.length:=⟨_,rfl⟩
 have HM:=Lib.hid hm
 rw [←hm] at c2 hwl hnc
 clear hm
 go_wp2_with fail
 clear c2
 go_loopw [9] (fun i wr=>RelL kp w gd gn gl A cw K ck s m i wr) (fun i _=>m - (intOf i).toNat)
 case atStart=>exact ⟨0,Nat.zero_le _,rfl,HH.out,Only.refl _ _⟩
 case round =>
  obtain ⟨k,hk,rfl,hd,ho⟩:=hrel
  obtain ⟨V,hV⟩:∃ V,V=wr:=⟨_,rfl⟩
  subst hV
  by_cases hkm:k<m
  case pos =>
   have hkw:k<s.waits.length:=by have:=HM.out;omega
   obtain ⟨p,hp⟩:∃ p,s.waits[k]?=some p:=⟨_,List.getElem?_eq_getElem hkw⟩
   obtain ⟨g,rfl,hg,hr⟩:=hd.hw.range hp
   have hk0:(0:Int)≤(k:Int):=by omega
   have hkI:(k:Int)<(m:Int):=by omega
   have hp64:=hd.hw.len p (List.mem_of_getElem? hp)
   have HW65:=wcell_length hp64
   have hzv:=zero_wait.1
   have hh1:Holds (V.alloc (.cells zwait 165)) V.heap.size 165 zwait:=Holds.fresh V _ _
   have hlz:(wcell p).length=zwait.size:=by rw [HW65,zwait_size]
   have hst:=store_over (P:=Tryz.prog) _ _ _ zwait hh1 (wcell p) hlz (wcell_one p)
   have hh2:=holds_over hh1 (wcell p) hlz
   have ho1:Only (fun _=>False) V (V.alloc (.cells zwait 165)):=(Only.refl _ _).alloc _
   have ho2:=Only.setCells (g:=V.heap.size) (.inr (Nat.le_refl _)) (wcell p) 0 ho1
   have hsw:(Tryz.prog.info? 165).map (·.size)=some (wcell p).length:=by rw [HW65];exact zero_wait.2
   have HH2:=Lib.hid hh2
   have HO2:=Lib.hid ho2
   have HHD:=Lib.hid hd
   have HOF:=Lib.hid ho
   have HP:=Lib.hid hp
   have hh3:=hh2
   have ho3:=ho2
   have hd3:=hd.keepAll ho3.size (fun g _ hg=>ho3.block g hg (fun e=>e))
   have HD3:=Lib.hid hd3
   have HO3:=Lib.hid ho3
   have HH3:=Lib.hid hh3
   clear HH2 HO2 hh1 hlz hh2 ho1 ho2 hd ho hp
   generalize zwait=zw at *
   have c6:((V.alloc (.cells zw 165)).setCells V.heap.size 0 (wcell p)).cell? ⟨gd,6,none⟩=some (.slice K s.keep.length ck):=hd3.hd.cell 6
   have hKc:s.keep.length≤ck:=hd3.hk.1
   by_cases hkl:k<s.keep.length
   case pos =>
    obtain ⟨b,off,rfl,hb,hbc⟩:=hd3.hk.2.2 (by show 0<s.keep.length;omega)
    have hKK:((V.alloc (.cells zw 165)).setCells V.heap.size 0 (wcell p)).cell? ⟨b,off+k,none⟩=some (.bool (s.keep.getD k false)):=hbc k hkl
    have hkv:kp k=s.keep.getD k false:=HKP.out k
    have hklI:(k:Int)<(s.keep.length:Int):=by omega
    generalize s.keep.getD k false=bk at *
    clear hh3 ho3 hd3 hbc
    cases bk
    case true =>
     have HKK:=Lib.hid hkv
     clear hkv
     go_wp2_with ((with_reducible refine wpList_load_mid rfl 165 (.tmp 12) rfl g (k*65) rfl (wcell p) _ hr Tryz.underlying165 rfl hsw ?_))
     have hh3:=HH3.out
     have ho3:=HO3.out
     have hd3:=HD3.out
     have hkp:=HKK.out
     clear hsw hr hst hzv HH3 HO3 HD3 c6 hKK
     generalize hgV:V.heap.size=gV at *
     have hgV1:=Holds.lt hh3
     generalize (V.alloc (.cells zw 165)).setCells gV 0 (wcell p)=V1 at *
     obtain ⟨at',x0⟩:=p
     have hat:at' < s.now.length:=HH.out.wat _ (List.mem_of_getElem? HP.out)
     have hp64':x0.length=64:=hp64
     have HBK:Hid (fallN kp s.waits s.lasts (k+1)=(fallN kp s.waits s.lasts k).set at' x0):=Lib.hid (by
      rw [fallN,show s.waits.getD k default=(at',x0) by rw [List.getD,HP.out];rfl,hkp];rfl)
     have c1:V1.cell? ⟨gd,1,none⟩=some (.slice (some ⟨gl,0,none⟩) s.now.length s.now.length):=hd3.hd.cell 1
     have c3:V1.cell? ⟨gV,0,none⟩=some (.int .i64 (at':Int)):=(hh3.cell 0).trans (by simp [wcell])
     have r1:V1.rangeAt gV 1 (vals .u8 x0):=fun j v hv=>by
      have:=range_of_holds hh3 (j+1) v (by simpa [wcell] using hv)
      rw [show 1+j=0+(j+1) by omega]
      exact this
     have hls:(vals .u8 x0).length=64:=by rw [vals_length];exact hp64'
     have t1:V1.there gl (at' * 64) (vals .u8 x0).length:=by rw [hls];exact hd3.hl.there (by rw [hd3.len];exact hat)
     have hsz:(Tryz.prog.info? 163).map (·.size)=some (vals .u8 x0).length:=by rw [hls];exact size_sector
     have hund:=Tryz.underlying163
     have hone:=vals_one .u8 x0
     have hi0:(0:Int)≤(at':Int):=by omega
     have hiI:(at':Int)<(s.now.length:Int):=by omega
     have hgvn:gV≠gl:=fun e=>by have:=HHD.out.hl.lt;omega
     have q1:(V1.drew.setCells gl (at' * 64) (vals .u8 x0)).cell? ⟨gd,1,none⟩=some (.slice (some ⟨gl,0,none⟩) s.now.length s.now.length):=(World.cell?_of_block (a:=⟨gd,1,none⟩) (setCells_aside hd3.dl _ _ _)).trans c1
     have q3:(V1.drew.setCells gl (at' * 64) (vals .u8 x0)).cell? ⟨gV,0,none⟩=some (.int .i64 (at':Int)):=(World.cell?_of_block (a:=⟨gV,0,none⟩) (setCells_aside hgvn _ _ _)).trans c3
     have q4:(V1.drew.setCells gl (at' * 64) (vals .u8 x0)).rangeAt gV 1 (vals .u8 x0):=World.rangeAt_setCells_apart (w:=V1.drew) r1 gl (at' * 64) _ (.inl hgvn)
     have q5:(V1.drew.setCells gl (at' * 64) (vals .u8 x0)).there gl (at' * 64) (vals .u8 x0).length:=World.there_setCells (w:=V1.drew) t1 gl (at' * 64) _
     have hd4:DiskAt (V1.drew.setCells gl (at' * 64) (vals .u8 x0)) gd gn gl (some ⟨g,0,none⟩) cw (some ⟨b,off,none⟩) ck { s with lasts:=fallN kp s.waits s.lasts (k+1) }:=by
      rw [HBK.out]
      exact DiskAt.setLast (W:=V1.drew) (s:={ s with lasts:=fallN kp s.waits s.lasts k }) hd3.drew hat hp64'
     have ho4:Only (fun g=>g=gl) w (V1.drew.setCells gl (at' * 64) (vals .u8 x0)):=(HOF.out.trans (Only.setCells (F:=fun g=>g=gl) (g:=gl) (.inl rfl) _ _ (ho3.more (F:=fun g=>g=gl) (fun _ _ e=>e.elim)).drew) (fun _ _ e=>e))
     have H1:=Lib.hid q1
     have H3:=Lib.hid q3
     have H4:=Lib.hid q4
     have H5:=Lib.hid q5
     have HD4:=Lib.hid hd4
     have HO4:=Lib.hid ho4
     clear q1 q3 q4 q5 hd4 ho4 hd3 ho3 hh3 hat hp64 hp64'
     generalize s.now.length=n at *
     go_region_held3 (fun w'=>w'.cell? ⟨gd,1,none⟩=some (.slice (some ⟨gl,0,none⟩) n n)∧w'.cell? ⟨gV,0,none⟩=some (.int .i64 (at':Int))∧w'.rangeAt gV 1 (vals .u8 x0)∧w'.there gl (at' * 64) (vals .u8 x0).length) (first | exact ⟨c1,c3,r1,t1⟩ | exact ⟨H1.out,H3.out,H4.out,H5.out⟩) (fail)
     clear c1 c3 r1 t1 hls hsz hund hone H1 H3 H4 H5
     go_wp2_with fail
     go_roundw
     case rel=>exact ⟨k+1,by omega,by go_num,HD4.out,HO4.out⟩
     case measure=>simp [intOf];omega
    case false =>
     have HKK:=Lib.hid hkv
     clear hkv
     have HBK:Hid (fallN kp s.waits s.lasts (k+1)=fallN kp s.waits s.lasts k):=Lib.hid (by rw [fallN,HKK.out];rfl)
     go_wp2_with ((with_reducible refine wpList_load_mid rfl 165 (.tmp 12) rfl g (k*65) rfl (wcell p) _ hr Tryz.underlying165 rfl hsw ?_))
     go_roundw
     case rel=>exact ⟨k+1,by omega,by go_num,by rw [HBK.out];exact HD3.out,HOF.out.trans (HO3.out.more (F:=fun g=>g=gl) fun _ _ e=>e.elim) (fun _ _ e=>e)⟩
     case measure=>simp [intOf];omega
   case neg =>
    have HKK:Hid (kp k=false):=Lib.hid (by rw [HKP.out k,List.getD,List.getElem?_eq_none (by omega)];rfl)
    have hklI:decide ((k:Int)<(s.keep.length:Int))=false:=decide_eq_false (by omega)
    have hklN:¬ ((k:Int)<(s.keep.length:Int)):=by omega
    clear hh3 ho3 hd3
    have HBK:Hid (fallN kp s.waits s.lasts (k+1)=fallN kp s.waits s.lasts k):=Lib.hid (by rw [fallN,HKK.out];rfl)
    go_wp2_with ((with_reducible refine wpList_load_mid rfl 165 (.tmp 12) rfl g (k*65) rfl (wcell p) _ hr Tryz.underlying165 rfl hsw ?_))
    go_roundw
    case rel=>exact ⟨k+1,by omega,by go_num,by rw [HBK.out];exact HD3.out,HOF.out.trans (HO3.out.more (F:=fun g=>g=gl) fun _ _ e=>e.elim) (fun _ _ e=>e)⟩
    case measure=>simp [intOf];omega
  case neg =>
   obtain rfl:k=m:=by omega
   have hkI:¬ ((k:Int)<(k:Int)):=by omega
   have HHD:=Lib.hid hd
   have HOF:=Lib.hid ho
   have HFO:=Lib.hid (forget_any V gd gn gl A cw K ck _ hd (by show s.waits.length≤100000;rw [←HM.out];exact hwl))
   clear hd ho
   go_wp2_with fail
   refine HFO.out.mono ?_
   rintro e V2 ⟨rfl,hd2,ho2⟩
   have e7:V2.cell? ⟨gd,7,none⟩=some (.bool s.down):=hd2.hd.cell 7
   have f7:V2.frozen? ⟨gd,7,none⟩=false:=hd2.hd.open_ 7
   have HF:Hid (DiskAt (V2.setCell ⟨gd,7,none⟩ (.bool true)) gd gn gl none 0 K ck { s with lasts:=fallN kp s.waits s.lasts s.waits.length,now:=backN (fallN kp s.waits s.lasts s.waits.length) s.waits s.now s.waits.length,waits:=[],down:=true }):=Lib.hid (by
    have:=hd2
    rw [HM.out] at this
    exact this.head 7 _ _ rfl rfl rfl rfl rfl)
   have HOO:Hid (Only (fun g=>g=gd∨g=gn∨g=gl) w (V2.setCell ⟨gd,7,none⟩ (.bool true))):=Lib.hid (((HOF.out.more (F:=fun g=>g=gd∨g=gn∨g=gl) (fun _ _ e=>.inr (.inr e))).trans ho2 (fun _ _ e=>e.elim .inl fun e=>.inr (.inl e))).setCell (.inl (.inl rfl)) _)
   clear hd2 ho2 HFO
   go_wp2_with fail
   go_end0
   exact ⟨rfl,HF.out,HOO.out⟩
end Go.Proofs.YtnedpkhehiijhaaGreat
namespace Go.Proofs.YtnedpkhehiijhaaGreat
open Go.RowKit
set_option linter.unusedVariables false

def Dk.due (s:Dk):Bool:=s.armed && decide (s.at_≤(s.ops:Int))
def Dk.kept (s:Dk):List (List Nat):=fallN (fun j=>s.keep.getD j false) s.waits s.lasts s.waits.length
def Dk.fall (s:Dk):Dk:={ s with lasts:=s.kept,now:=backN s.kept s.waits s.now s.waits.length,waits:=[],down:=true }
def Dk.wrote (s:Dk) (i:Nat) (x:List Nat):Dk:={ s with now:=s.now.set i x,waits:=s.waits ++ [(i,x)],ops:=s.ops+1 }
def Dk.flushed (s:Dk):Dk:={ s with lasts:=fallN (fun _=>true) s.waits s.lasts s.waits.length,waits:=[],ops:=s.ops+1 }
def Dk.arm (s:Dk) (a:Int) (k:List Bool):Dk:={ s with armed:=true,at_:=a,keep:=k }
def Dk.restart (s:Dk):Dk:={ s with now:=backN s.lasts s.waits s.now s.waits.length,waits:=[],armed:=false,at_:=0,keep:=[],down:=false,ops:=0 }
def Dk.fits (s:Dk) (i:Int) (x:List Nat):Prop:=0≤i∧i<(s.now.length:Int)∧x.length=64
instance (s:Dk) (i:Int) (x:List Nat):Decidable (s.fits i x):=inferInstanceAs (Decidable (_∧_∧_))
def Dk.write (s:Dk) (i:Int) (x:List Nat):Dk×Nat:=if s.down then (s,6) else if s.fits i x then (if s.due then (s.fall,6) else (s.wrote i.toNat x,0)) else (s,1)
def Dk.flush (s:Dk):Dk×Nat:=if s.down then (s,6) else if s.due then (s.fall,6) else (s.flushed,0)
def Dk.read (s:Dk) (i:Int):List Nat:=if 0≤i then s.now.getD i.toNat [] else []

theorem DiskAt.disk {w w':World} {F:Nat→Prop} {gd gn gl:Nat} {A A':Option Addr} {cw cw':Nat} {K K':Option Addr} {ck ck':Nat} {s s':Dk} (h:DiskAt w gd gn gl A cw K ck s) (hF:F gd∧F gn∧F gl∧(∀ g,blockOf A=some g→F g)∧(∀ g,blockOf K=some g→F g))
  (h':DiskAt w' gd gn gl A' cw' K' ck' s') (hA:∀ g,blockOf A'=some g→blockOf A=some g∨w.heap.size≤g) (hK:∀ g,blockOf K'=some g→blockOf K=some g∨w.heap.size≤g):Disk w' (grow F w w') gd s' :=
 ⟨gn,gl,A',cw',K',ck',h',.inl hF.1,.inl hF.2.1,.inl hF.2.2.1,fun g hg=>(hA g hg).elim (fun e=>.inl (hF.2.2.2.1 g e)) fun e=>.inr ⟨e,h'.hw.lt hg⟩,fun g hg=>(hK g hg).elim (fun e=>.inl (hF.2.2.2.2 g e)) fun e=>.inr ⟨e,h'.kw g hg⟩⟩

section
variable (w:World) (F:Nat→Prop) (gd:Nat) (s:Dk)
theorem write_down (gn gl:Nat) (A:Option Addr) (cw:Nat) (K:Option Addr) (ck:Nat) (h:DiskAt w gd gn gl A cw K ck s) (hdn:s.down=true) (i:Int) (v:Value) :
  Calls Tryz.prog 103 #[.pointer (some ⟨gd,0,none⟩),.int .i64 i,v] w fun e w'=>e = .returned (.int .i64 6)∧w=w':=by
 have c7:w.cell? ⟨gd,7,none⟩=some (.bool s.down):=h.hd.cell 7
 have HC1:=Lib.hid (down_any w gd _ c7)
 rw [hdn] at HC1
 clear h c7 hdn
 go_enter Tryz.func103,Tryz.ntmps103
 go_wp2_with (refine HC1.out.mono ?_;rintro e w1 ⟨rfl,rfl⟩)
 go_ret
 exact ⟨rfl,rfl⟩
set_option maxRecDepth 100000 in
theorem write_arg (gn gl:Nat) (A:Option Addr) (cw:Nat) (K:Option Addr) (ck:Nat) (h:DiskAt w gd gn gl A cw K ck s) (hdn:s.down=false) (i:Int) (A2:Option Addr) (n2 c2:Nat) (hb:¬ (0≤i∧i<(s.now.length:Int)∧n2=64)) :
  Calls Tryz.prog 103 #[.pointer (some ⟨gd,0,none⟩),.int .i64 i,.slice A2 n2 c2] w fun e w'=>e = .returned (.int .i64 1)∧w=w':=by
 have c0:w.cell? ⟨gd,0,none⟩=some (.slice (some ⟨gn,0,none⟩) s.now.length s.now.length):=h.hd.cell 0
 have c7:w.cell? ⟨gd,7,none⟩=some (.bool s.down):=h.hd.cell 7
 have HC1:=Lib.hid (down_any w gd _ c7)
 rw [hdn] at HC1
 by_cases hin:0≤i∧i<(s.now.length:Int)
 ·have HC2:=Lib.hid (has_any w gd _ _ _ i c0 true (by rw [Bool.eq_iff_iff];simpa using hin))
  have h64:((n2:Int) != 64)=true:=by rw [bne_iff_ne];intro e;exact hb ⟨hin.1,hin.2,by omega⟩
  clear h c0 c7 hdn hb hin
  go_enter Tryz.func103,Tryz.ntmps103
  go_wp2_with (first | (refine HC1.out.mono ?_;rintro e w1 ⟨rfl,rfl⟩) | (refine HC2.out.mono ?_;rintro e w1 ⟨rfl,rfl⟩))
  go_ret
  exact ⟨rfl,rfl⟩
 ·have HC2:=Lib.hid (has_any w gd _ _ _ i c0 false (by rw [Bool.eq_iff_iff];simpa using fun a=>by omega))
  clear h c0 c7 hdn hb hin
  go_enter Tryz.func103,Tryz.ntmps103
  go_wp2_with (first | (refine HC1.out.mono ?_;rintro e w1 ⟨rfl,rfl⟩) | (refine HC2.out.mono ?_;rintro e w1 ⟨rfl,rfl⟩))
  go_ret
  exact ⟨rfl,rfl⟩
set_option maxRecDepth 100000 in
theorem write_due (gn gl:Nat) (A:Option Addr) (cw:Nat) (K:Option Addr) (ck:Nat) (h:DiskAt w gd gn gl A cw K ck s) (hdn:s.down=false) (i:Nat) (hi:i<s.now.length) (A2:Option Addr) (c2:Nat) (hdue:s.due=true) (hwl:s.waits.length≤100000) :
  Calls Tryz.prog 103 #[.pointer (some ⟨gd,0,none⟩),.int .i64 i,.slice A2 64 c2] w fun e w'=>e = .returned (.int .i64 6)∧DiskAt w' gd gn gl none 0 K ck s.fall∧Only (fun g=>g=gd∨g=gn∨g=gl) w w':=by
 have c0:w.cell? ⟨gd,0,none⟩=some (.slice (some ⟨gn,0,none⟩) s.now.length s.now.length):=h.hd.cell 0
 have c3:w.cell? ⟨gd,3,none⟩=some (.int .i64 s.ops):=h.hd.cell 3
 have c4:w.cell? ⟨gd,4,none⟩=some (.bool s.armed):=h.hd.cell 4
 have c5:w.cell? ⟨gd,5,none⟩=some (.int .i64 s.at_):=h.hd.cell 5
 have c7:w.cell? ⟨gd,7,none⟩=some (.bool s.down):=h.hd.cell 7
 have HC1:=Lib.hid (down_any w gd _ c7)
 rw [hdn] at HC1
 have HC2:=Lib.hid (has_any w gd _ _ _ i c0 true (by rw [Bool.eq_iff_iff];simp;omega))
 have HC3:=Lib.hid (due_any w gd _ _ _ c3 c4 c5 true hdue.symm)
 have HFA:=Lib.hid (fun q=>fall_any (w.drewN q) gd gn gl A cw K ck s (h.drewN q) hwl (fun j=>s.keep.getD j false) fun _=>rfl)
 clear h c0 c3 c4 c5 c7 hdn hdue hwl hi
 go_enter Tryz.func103,Tryz.ntmps103
 go_wp2_with (first | (refine HC1.out.mono ?_;rintro e w1 ⟨rfl,rfl⟩) | (refine HC2.out.mono ?_;rintro e w1 ⟨rfl,rfl⟩) | fail)
 refine HC3.out.mono ?_
 rintro e w1 ⟨rfl,q,rfl⟩
 go_wp2_with fail
 refine (HFA.out q).mono ?_
 rintro e w2 ⟨rfl,hd,ho⟩
 have HD:=Lib.hid hd
 have HO:=Lib.hid ho
 clear hd ho
 go_wp2_with fail
 go_ret
 exact ⟨rfl,HD.out,HO.out.os,HO.out.tape,HO.out.output,HO.out.size,HO.out.block⟩
set_option maxRecDepth 100000 in
theorem flush_down (gn gl:Nat) (A:Option Addr) (cw:Nat) (K:Option Addr) (ck:Nat) (h:DiskAt w gd gn gl A cw K ck s) (hdn:s.down=true) :
  Calls Tryz.prog 105 #[.pointer (some ⟨gd,0,none⟩)] w fun e w'=>e = .returned (.int .i64 6)∧w=w':=by
 have c7:w.cell? ⟨gd,7,none⟩=some (.bool s.down):=h.hd.cell 7
 have HC1:=Lib.hid (down_any w gd _ c7)
 rw [hdn] at HC1
 clear h c7 hdn
 go_enter Tryz.func105,Tryz.ntmps105
 go_wp2_with (refine HC1.out.mono ?_;rintro e w1 ⟨rfl,rfl⟩)
 go_ret
 exact ⟨rfl,rfl⟩
set_option maxRecDepth 100000 in
theorem flush_due (gn gl:Nat) (A:Option Addr) (cw:Nat) (K:Option Addr) (ck:Nat) (h:DiskAt w gd gn gl A cw K ck s) (hdn:s.down=false) (hdue:s.due=true) (hwl:s.waits.length≤100000) :
  Calls Tryz.prog 105 #[.pointer (some ⟨gd,0,none⟩)] w fun e w'=>e = .returned (.int .i64 6)∧DiskAt w' gd gn gl none 0 K ck s.fall∧Only (fun g=>g=gd∨g=gn∨g=gl) w w':=by
 have c3:w.cell? ⟨gd,3,none⟩=some (.int .i64 s.ops):=h.hd.cell 3
 have c4:w.cell? ⟨gd,4,none⟩=some (.bool s.armed):=h.hd.cell 4
 have c5:w.cell? ⟨gd,5,none⟩=some (.int .i64 s.at_):=h.hd.cell 5
 have c7:w.cell? ⟨gd,7,none⟩=some (.bool s.down):=h.hd.cell 7
 have HC1:=Lib.hid (down_any w gd _ c7)
 rw [hdn] at HC1
 have HC3:=Lib.hid (due_any w gd _ _ _ c3 c4 c5 true hdue.symm)
 have HFA:=Lib.hid (fun q=>fall_any (w.drewN q) gd gn gl A cw K ck s (h.drewN q) hwl (fun j=>s.keep.getD j false) fun _=>rfl)
 clear h c3 c4 c5 c7 hdn hdue hwl
 go_enter Tryz.func105,Tryz.ntmps105
 go_wp2_with (refine HC1.out.mono ?_;rintro e w1 ⟨rfl,rfl⟩)
 refine HC3.out.mono ?_
 rintro e w1 ⟨rfl,q,rfl⟩
 go_wp2_with fail
 refine (HFA.out q).mono ?_
 rintro e w2 ⟨rfl,hd,ho⟩
 have HD:=Lib.hid hd
 have HO:=Lib.hid ho
 clear hd ho
 go_wp2_with fail
 go_ret
 exact ⟨rfl,HD.out,HO.out.os,HO.out.tape,HO.out.output,HO.out.size,HO.out.block⟩
end
end Go.Proofs.YtnedpkhehiijhaaGreat
namespace Go.Proofs.YtnedpkhehiijhaaGreat
open Go.RowKit
set_option linter.unusedVariables false

def bools (l:List Bool):List Value:=l.map Value.bool
theorem info_bool:(Tryz.prog.info? 4).map (fun i=>(i.zero,i.size,i.bytes))=some (some (.bool false),1,1):=by kernel_rfl
theorem step_append_run {P:Program} {W:World} {ops:Array Oper} {o:Oper} {a:Act} {K:Act→World→Prop} {Q:Exit→Act→World→Prop} {E:Prop} (hgd:o.guard=none) (s x:Operand) (t:TypeId)
  (ho:o.op = .call { callee:=.builtin .append,args:=#[s,x],argTypes:=#[t,t] }) (hot:o.type=t) (sv xv:Value) (hs:a.eval s=sv) (hx:a.eval x=xv) (v:Value) (w':World) (hrun:(Builtin.append_ #[t,t] t #[sv,xv]).run P W = .ok v w') (h:K (a.put o.dst v) w') :
  if Region.wanted o (yielded ops a.tmps)=true then Oper.wp P o a W K Q else E:=by
 have hw:Region.wanted o (yielded ops a.tmps)=true:=by simp [Region.wanted,hgd]
 rw [if_pos hw]
 unfold Oper.wp
 simp [execOp,ho,hot,resolve,invoke,builtin,hs,hx,hrun,Result.andThen]
 exact h

def ArmPost (w:World) (gd gn gl:Nat) (A:Option Addr) (cw:Nat) (s:Dk) (w':World):Prop :=
 (∃ K' ck',DiskAt w' gd gn gl A cw K' ck' s∧∀ g,blockOf K'=some g→w.heap.size≤g)∧Only (fun g=>g=gd) w w'

end Go.Proofs.YtnedpkhehiijhaaGreat
namespace Go.Proofs.YtnedpkhehiijhaaGreat
open Go.RowKit
set_option linter.unusedVariables false

section
variable {w:World} {F:Nat→Prop} {gd:Nat} {s:Dk}
theorem Disk.pos (h:Disk w F gd s):F gd∧gd<w.heap.size:=by
 obtain ⟨gn,gl,A,cw,K,ck,h,f1,f2,f3,f4,f5⟩:=h
 exact ⟨f1,Holds.lt h.hd⟩
theorem Disk.len (h:Disk w F gd s):s.lasts.length=s.now.length∧1≤s.now.length∧s.now.length≤2000:=by
 obtain ⟨gn,gl,A,cw,K,ck,h,_⟩:=h
 exact ⟨h.len,h.n1,h.n2⟩
theorem Disk.sect (h:Disk w F gd s) {i:Nat} {x:List Nat} (hx:s.now[i]?=some x):x.length=64:=by
 obtain ⟨gn,gl,A,cw,K,ck,h,_⟩:=h
 exact h.hn.len hx
theorem Disk.grown (h:Disk w F gd s) (w':World):Disk w (grow F w w') gd s:=h.more fun k hk=>.inl hk

theorem disk_write (h:Disk w F gd s) (i:Int) (A2:Option Addr) (n2 c2:Nat) (x:List Nat) (hn:x.length=n2) (hr:Rd .u8 w w.heap.size A2 c2 x) (hwl:s.waits.length≤100000) (hops:s.ops≤1000000000) :
  Calls Tryz.prog 103 #[.pointer (some ⟨gd,0,none⟩),.int .i64 i,.slice A2 n2 c2] w fun e w'=>e = .returned (.int .i64 ((s.write i x).2:Nat))∧Disk w' (grow F w w') gd (s.write i x).1∧Only F w w':=by
 obtain ⟨gn,gl,A,cw,K,ck,h,f1,f2,f3,f4,f5⟩:=h
 have hself:Disk w (grow F w w) gd s:=h.disk (F:=F) ⟨f1,f2,f3,f4,f5⟩ h (fun g e=>.inl e) (fun g e=>.inl e)
 unfold Dk.write
 by_cases hdn:s.down=true
 ·rw [if_pos hdn]
  refine (write_down w gd s gn gl A cw K ck h hdn i _).mono ?_
  rintro e w' ⟨rfl,rfl⟩
  exact ⟨rfl,hself,Only.refl _ _⟩
 ·rw [if_neg hdn]
  have hdn':s.down=false:=by simpa using hdn
  by_cases hf:s.fits i x
  ·rw [if_pos hf]
   obtain ⟨h0,h1,h2⟩:=hf
   obtain ⟨i,rfl⟩:∃ k:Nat,i=(k:Int):=⟨i.toNat,by omega⟩
   obtain rfl:n2=64:=by omega
   by_cases hd:s.due=true
   ·rw [if_pos hd]
    refine (write_due w gd s gn gl A cw K ck h hdn' i (by omega) A2 c2 hd hwl).mono ?_
    rintro e w' ⟨rfl,hd',ho⟩
    exact ⟨rfl,h.disk ⟨f1,f2,f3,f4,f5⟩ hd' (fun g e=>by simp [blockOf] at e) (fun g e=>.inl e),ho.more fun k _ e=>by rcases e with rfl | rfl | rfl;exact f1;exact f2;exact f3⟩
   ·rw [if_neg hd]
    refine (write_ok w gd gn gl A cw K ck s h i (by omega) x h2 hdn' (by simpa [Dk.due] using hd) A2 c2 hr hwl hops).mono ?_
    rintro e w' ⟨rfl,g',c',hd',hA,ho⟩
    refine ⟨rfl,h.disk ⟨f1,f2,f3,f4,f5⟩ hd' (fun g e=>?_) (fun g e=>.inl e),ho.more fun k _ e=>by rcases e with rfl | rfl | e;exact f1;exact f2;exact f4 k e⟩
    obtain rfl:g'=g:=by simpa [blockOf] using e
    exact hA
  ·rw [if_neg hf]
   refine (write_arg w gd s gn gl A cw K ck h hdn' i A2 n2 c2 (fun e=>hf ⟨e.1,e.2.1,by omega⟩)).mono ?_
   rintro e w' ⟨rfl,rfl⟩
   exact ⟨rfl,hself,Only.refl _ _⟩
theorem disk_flush (h:Disk w F gd s) (hwl:s.waits.length≤100000) (hops:s.ops≤1000000000) :
  Calls Tryz.prog 105 #[.pointer (some ⟨gd,0,none⟩)] w fun e w'=>e = .returned (.int .i64 (s.flush.2:Nat))∧Disk w' (grow F w w') gd s.flush.1∧Only F w w':=by
 obtain ⟨gn,gl,A,cw,K,ck,h,f1,f2,f3,f4,f5⟩:=h
 have hself:Disk w (grow F w w) gd s:=h.disk (F:=F) ⟨f1,f2,f3,f4,f5⟩ h (fun g e=>.inl e) (fun g e=>.inl e)
 unfold Dk.flush
 by_cases hdn:s.down=true
 ·rw [if_pos hdn]
  refine (flush_down w gd s gn gl A cw K ck h hdn).mono ?_
  rintro e w' ⟨rfl,rfl⟩
  exact ⟨rfl,hself,Only.refl _ _⟩
 ·rw [if_neg hdn]
  have hdn':s.down=false:=by simpa using hdn
  by_cases hd:s.due=true
  ·rw [if_pos hd]
   refine (flush_due w gd s gn gl A cw K ck h hdn' hd hwl).mono ?_
   rintro e w' ⟨rfl,hd',ho⟩
   exact ⟨rfl,h.disk ⟨f1,f2,f3,f4,f5⟩ hd' (fun g e=>by simp [blockOf] at e) (fun g e=>.inl e),ho.more fun k _ e=>by rcases e with rfl | rfl | rfl;exact f1;exact f2;exact f3⟩
  ·rw [if_neg hd]
   refine (flush_ok w gd gn gl A cw K ck s h hdn' (by simpa [Dk.due] using hd) hwl hops (fun _=>true) fun _=>rfl).mono ?_
   rintro e w' ⟨rfl,hd',ho⟩
   exact ⟨rfl,h.disk ⟨f1,f2,f3,f4,f5⟩ hd' (fun g e=>by simp [blockOf] at e) (fun g e=>.inl e),ho.more fun k _ e=>by rcases e with rfl | rfl;exact f1;exact f3⟩
theorem disk_read (h:Disk w F gd s) (i:Int) :
  Calls Tryz.prog 63 #[.pointer (some ⟨gd,0,none⟩),.int .i64 i] w fun e w'=>∃ A' n' c',e = .returned (.slice A' n' c')∧(s.read i).length=n'∧Rd .u8 w' w'.heap.size A' c' (s.read i)∧(n'≠0→A'=some ⟨w.heap.size,0,none⟩∧c'=n'∧Row .u8 5 w' w.heap.size (s.read i))∧Below w.heap.size w w':=by
 obtain ⟨gn,gl,A,cw,K,ck,h,f1,f2,f3,f4,f5⟩:=h
 by_cases hi:0≤i∧i<(s.now.length:Int)
 ·obtain ⟨i,rfl⟩:∃ k:Nat,i=(k:Int):=⟨i.toNat,by omega⟩
  have hin:i<s.now.length:=by omega
  obtain ⟨x,hx⟩:∃ x,s.now[i]?=some x:=⟨_,List.getElem?_eq_getElem hin⟩
  have he:s.read (i:Int)=x:=by unfold Dk.read;rw [if_pos hi.1,Int.toNat_natCast,List.getD,hx];rfl
  have hl:=h.hn.len hx
  refine (read_yes w gd gn gl A cw K ck s h i x hx).mono ?_
  rintro e w' ⟨rfl,hrow,hb⟩
  rw [he]
  have hlt:=Holds.lt hrow
  refine ⟨_,64,64,rfl,hl,?_,fun _=>⟨rfl,rfl,hrow⟩,hb⟩
  have:=hrow.rd (n:=64) (c:=64) (by omega) (Nat.le_refl _) (by omega)
  rw [List.take_of_length_le (by omega)] at this
  exact this.more hlt
 ·have he:s.read i=[]:=by
   unfold Dk.read
   by_cases h0:0≤i
   ·rw [if_pos h0,List.getD,List.getElem?_eq_none (by omega)];rfl
   ·rw [if_neg h0]
  refine (read_no w gd gn gl A cw K ck s h i hi).mono ?_
  rintro e w' ⟨rfl,rfl⟩
  rw [he]
  exact ⟨none,0,0,rfl,rfl,Rd.nil_ _ _ _,fun e=>absurd rfl e,Below.refl _ _⟩
theorem disk_down (h:Disk w F gd s):Calls Tryz.prog 61 #[.pointer (some ⟨gd,0,none⟩)] w fun e w'=>e = .returned (.bool s.down)∧w=w':=by
 obtain ⟨gn,gl,A,cw,K,ck,h,_⟩:=h
 exact down_any w gd _ (h.hd.cell 7)
theorem disk_size (h:Disk w F gd s):Calls Tryz.prog 68 #[.pointer (some ⟨gd,0,none⟩)] w fun e w'=>e = .returned (.int .i64 (s.now.length:Int))∧w=w':=by
 obtain ⟨gn,gl,A,cw,K,ck,h,_⟩:=h
 exact size_any w gd _ _ _ (h.hd.cell 0)
end

/-! Of nil nothing is there. -/
end Go.Proofs.YtnedpkhehiijhaaGreat
namespace Go.Proofs.YtnedpkhehiijhaaGreat
open Go.RowKit
set_option linter.unusedVariables false

/-- Bytes as a text. -/
def str (l:List Nat):ByteArray:=⟨(l.map UInt8.ofNat).toArray⟩
theorem str_inj {l l':List Nat} (h:∀ x∈l,x<256) (h':∀ x∈l',x<256) (e:str l=str l'):l=l':=by
 have e1:l.map UInt8.ofNat=l'.map UInt8.ofNat:=by
  have:=congrArg (fun b:ByteArray=>b.data.toList) e
  simpa [str] using this
 have e2:(l.map UInt8.ofNat).map UInt8.toNat=(l'.map UInt8.ofNat).map UInt8.toNat:=by rw [e1]
 have e3:∀ m:List Nat,(∀ x∈m,x<256)→(m.map UInt8.ofNat).map UInt8.toNat=m:=by
  intro m hm
  rw [List.map_map]
  conv=>rhs;rw [←List.map_id m]
  apply List.map_congr_left
  intro x hx
  simp [Nat.mod_eq_of_lt (hm x hx)]
 rw [e3 l h,e3 l' h'] at e2
 exact e2
theorem conv_str {w:World} {B:Nat} {A:Option Addr} {c n:Nat} {l:List Nat} (hr:Rd .u8 w B A c l) (hn:l.length=n) (h:∀ x∈l,x<256):(convert 44 9 (.slice A n c)).run Tryz.prog w = .ok (.string (str l)) w:=by
 subst hn
 rcases Nat.eq_zero_or_pos l.length with h0 | h0
 ·obtain rfl:=List.eq_nil_of_length_eq_zero h0
  rcases A with _ | a
  ·exact run_convert_bytes_nil w 44 5 Tryz.underlying44 Tryz.underlying5 0 c 9 Tryz.underlying9
  ·exact run_convert_bytes_back w 44 9 5 a c [] Tryz.underlying44 Tryz.underlying5 Tryz.underlying9 (fun j hj=>by simp at hj)
 ·obtain ⟨b,off,rfl,hb,hc⟩:=hr.2.2 h0
  have hh:=run_convert_bytes_back w 44 9 5 ⟨b,off,none⟩ c (l.map UInt8.ofNat) Tryz.underlying44 Tryz.underlying5 Tryz.underlying9 (fun j hj=>by
   have hj':j<l.length:=by simpa using hj
   have e:=hc j hj'
   have ha:(⟨b,off,none⟩:Addr).add j=⟨b,off+j,none⟩:=by unfold Addr.add;split <;> simp_all
   rw [ha,e]
   have hx:=h l[j] (List.getElem_mem hj')
   simp [List.getD,hj',Nat.mod_eq_of_lt hx])
  rwa [List.length_map] at hh
def Oct1 (l:List Nat):Prop:=∀ x∈l,x<256
theorem str_ne {l l':List Nat} (ho:Oct1 l) (ho':Oct1 l') (h:l≠l'):((str l).toList == (str l').toList)=false:=by
 rw [beq_eq_false_iff_ne,Lib.toList_data,Lib.toList_data]
 intro e
 exact h (str_inj ho ho' (by unfold str at e ⊢;simp at e;simp [e]))

/-- Noughts, the first k of them replaced. -/
def fillS (l:List Nat):Nat→List Nat
 | 0=>zsec
 | k+1=>(fillS l k).set k (l.getD k 0)
theorem fillS_length (l:List Nat):∀ k,(fillS l k).length=64
 | 0=>by simp [fillS,zsec]
 | k+1=>by rw [fillS,List.length_set,fillS_length l k]
/-- Bytes as a sector. -/
def secOf (l:List Nat):List Nat:=fillS l (min l.length 64)
theorem secOf_length (l:List Nat):(secOf l).length=64:=fillS_length l _
theorem secOf_nil:secOf []=zsec:=rfl
theorem zsec_oct:Oct1 zsec:=fun x hx=>by rw [List.eq_of_mem_replicate hx];omega
theorem fillS_oct {l:List Nat} (h:Oct1 l):∀ k,Oct1 (fillS l k)
 | 0=>zsec_oct
 | k+1=>fun x hx=>by
  rcases List.mem_or_eq_of_mem_set hx with h1 | rfl
  ·exact fillS_oct h k x h1
  ·rw [List.getD]
   rcases Nat.lt_or_ge k l.length with hk | hk
   ·rw [List.getElem?_eq_getElem hk];exact h _ (List.getElem_mem hk)
   ·rw [List.getElem?_eq_none hk];exact (by decide:0<256)
theorem secOf_oct {l:List Nat} (h:Oct1 l):Oct1 (secOf l):=fillS_oct h _

def RelS (w:World) (l:List Nat) (B:Nat) (A:Option Addr) (c n:Nat) (i:Value) (wr:World):Prop :=
 ∃ k:Nat,k≤n∧k≤64∧i = .int .i64 k∧Row .u8 5 wr w.heap.size (fillS l k)∧Rd .u8 wr B A c l∧Below w.heap.size w wr

end Go.Proofs.YtnedpkhehiijhaaGreat
namespace Go.Proofs.YtnedpkhehiijhaaGreat
open Go.RowKit
set_option linter.unusedVariables false
set_option linter.unusedSimpArgs false
attribute [local go_sem ↓] Go.wp_at_zero Go.wp_at_succ

/-- A disk all of whose blocks lie from B on. -/
def DiskB (w:World) (B gd:Nat) (s:Dk):Prop:=B≤w.heap.size∧Disk w (fun k=>B≤k) gd s
section
variable {w w':World} {B gd:Nat} {s:Dk}
theorem DiskB.under (h:DiskB w B gd s) (hb:Below w.heap.size w w'):DiskB w' B gd s:=by
 refine ⟨Nat.le_trans h.1 hb.size,?_⟩
 obtain ⟨gn,gl,A,cw,K,ck,hd,f⟩:=h.2
 exact ⟨gn,gl,A,cw,K,ck,hd.keepAll hb.size fun g _ hg=>hb.block g hg,f⟩
theorem DiskB.of (hB:B≤w.heap.size) (h:Disk w' (grow (fun k=>B≤k) w w') gd s) (ho:Only (fun k=>B≤k) w w'):DiskB w' B gd s∧Below B w w' :=
 ⟨⟨Nat.le_trans hB ho.size,h.more fun k hk=>hk.elim (fun e=>e) fun e=>by omega⟩,ho.below (fun k hk=>hk) hB⟩
theorem DiskB.pos (h:DiskB w B gd s):B≤gd∧gd<w.heap.size:=⟨h.2.pos.1,h.2.pos.2⟩
theorem DiskB.drew (h:DiskB w B gd s):DiskB w.drew B gd s:=h.under (Below.refl _ w).drew
end
/-- A typed row of bytes gets its mark, wherever it lies. -/
theorem run_mark (w:World) (b:Nat) (C:Array Value) (n c:Nat) (h:Holds w b 5 C) :
  ∃ w',(convert 44 44 (.slice (some ⟨b,0,none⟩) n c)).run Tryz.prog w = .ok (.slice (some ⟨b,0,none⟩) n c) w'∧Below b w w'∧(∀ a,w'.cell? a=w.cell? a)∧w'.heap.size=w.heap.size:=by
 have hsh:w.shape? b=some (5,C.size):=by
  have h':w.heap[b]?=some (.cells C 5 (0,0)):=h
  unfold World.shape?
  rw [h']
 have h':w.heap[b]?=some (.cells C 5 (0,0)):=h
 have e:(w.freeze ⟨b,C.size,none⟩ 1).heap=w.heap.modify b fun | .cells c elem (lo,hi)=>.cells c elem (if lo == hi then (C.size,C.size+1) else (min lo C.size,max hi (C.size+1))) | o=>o:=by
  unfold World.freeze
  rw [if_neg (by decide)]
  rfl
 have hb:(w.freeze ⟨b,C.size,none⟩ 1).heap[b]?=some (.cells C 5 (C.size,C.size+1)):=by
  rw [e,Array.getElem?_modify,if_pos rfl,h']
  rfl
 have hk:∀ k,k≠b→(w.freeze ⟨b,C.size,none⟩ 1).heap[k]?=w.heap[k]?:=fun k hne=>by
  rw [e,Array.getElem?_modify,if_neg (fun x=>hne x.symm)]
 refine ⟨w.freeze ⟨b,C.size,none⟩ 1,?_,⟨?_,?_,?_,?_,fun k hlt=>hk k (by omega)⟩,fun a=>?_,?_⟩
 ·simp [convert,run_underlying Tryz.underlying44,run_underlying Tryz.underlying5,markStringish,hsh]
 ·unfold World.freeze;rw [if_neg (by decide)]
 ·unfold World.freeze;rw [if_neg (by decide)]
 ·unfold World.freeze;rw [if_neg (by decide)]
 ·rw [e,Array.size_modify];exact Nat.le_refl _
 ·by_cases ha:a.block=b
  ·simp only [World.cell?]
   rw [ha,hb,h']
  ·simp only [World.cell?]
   rw [hk a.block ha]
 ·rw [e,Array.size_modify]
def secA:List Nat:=secOf [97]
def secB:List Nat:=secOf [98]
def knownA:Dk:=(fresh 2).arm 2 [false,true]
def knownW:Dk:=(knownA.write 0 secA).1
def knownV:Dk:=(knownW.write 1 secB).1
def knownS:Dk:=knownV.flush.1
end Go.Proofs.YtnedpkhehiijhaaGreat
namespace Go.Proofs.YtnedpkhehiijhaaGreat
open Go.RowKit
set_option linter.unusedVariables false
/-- A row of a call. -/
structure Rw where
 a:Option Addr
 c:Nat
 l:List Nat
instance:Inhabited Rw:=⟨⟨none,0,[]⟩⟩
/-- The slice '.slice A rs.length c' reads as these rows. -/
def RdR (w:World) (B:Nat) (A:Option Addr) (c:Nat) (rs:List Rw):Prop :=
 rs.length≤c∧c≤9223372036854775807∧(∀ j,j<rs.length→Rd .u8 w B (rs.getD j default).a (rs.getD j default).c (rs.getD j default).l) ∧
  (0<rs.length→∃ b off,A=some ⟨b,off,none⟩∧b<B∧∀ j,j<rs.length→w.cell? ⟨b,off+j,none⟩=some (.slice (rs.getD j default).a (rs.getD j default).l.length (rs.getD j default).c))
theorem RdR.under {w w':World} {B:Nat} {A:Option Addr} {c:Nat} {rs:List Rw} (h:RdR w B A c rs) (hb:Below B w w'):RdR w' B A c rs :=
 ⟨h.1,h.2.1,fun j hj=>(h.2.2.1 j hj).under hb,fun hn=>by
  obtain ⟨b,off,e,hlt,hc⟩:=h.2.2.2 hn
  exact ⟨b,off,e,hlt,fun j hj=>(hb.cell (p:=⟨b,off+j,none⟩) hlt).trans (hc j hj)⟩⟩
end Go.Proofs.YtnedpkhehiijhaaGreat
namespace Go.Proofs.YtnedpkhehiijhaaGreat
open Go.RowKit
set_option linter.unusedVariables false
set_option linter.unusedSimpArgs false

/-- The slice '.slice A n c' holds the cells vs, sz cells an element, and is its holder's own. -/
def OwnV (e:TypeId) (sz:Nat) (w:World) (A:Option Addr) (c n:Nat) (vs:List Value):Prop:=w.ownsRow 0 e sz (.slice A n c) n vs
section
variable {e:TypeId} {sz:Nat} {w w':World} {A:Option Addr} {c n:Nat} {vs:List Value}
theorem OwnV.nil (e:TypeId) (sz:Nat) (w:World):OwnV e sz w none 0 0 []:=World.ownsRow_nil w 0 e sz
theorem OwnV.lt (h:OwnV e sz w A c n vs) {g:Nat} (hg:blockOf A=some g):g<w.heap.size:=(World.ownsRow.lt h g (by rwa [ownBlock_eq])).2
theorem OwnV.keep (h:OwnV e sz w A c n vs) (hk:∀ g,blockOf A=some g→g<w.heap.size→w'.heap[g]?=w.heap[g]?):OwnV e sz w' A c n vs:=by
 refine ⟨h.1,?_⟩
 rcases h.2 with hn | ⟨g,cap,cur,hv,hB,hgg,rest⟩
 ·exact .inl hn
 ·refine .inr ⟨g,cap,cur,hv,hB,?_,rest⟩
  injection hv with hA _ _
  exact (hk g (by rw [hA];rfl) (Array.getElem?_eq_some_iff.1 hgg).1).trans hgg
theorem OwnV.le (h:OwnV e sz w A c n vs):n≤c∧c≤9223372036854775807:=by
 rcases h.2 with ⟨hv,hn⟩ | ⟨g,cap,cur,hv,hB,hgg,h1,h2,rest⟩
 ·injection hv with _ _ hc
  omega
 ·injection hv with _ _ hc
  unfold maxLen at h2
  omega
theorem OwnV.at_ (h:OwnV e sz w A c n vs) {j:Nat} {v:Value} (hv:vs[j]?=some v):∃ g,A=some ⟨g,0,none⟩∧g<w.heap.size∧w.cell? ⟨g,j,none⟩=some v∧w.frozen? ⟨g,j,none⟩=false:=by
 have hj:j<vs.length:=(List.getElem?_eq_some_iff.1 hv).1
 rcases h.2 with ⟨hx,hn⟩ | ⟨g,cap,cur,hx,hB,hgg,h1,h2,h3,h4⟩
 ·have h1:=h.1
  rw [hn,Nat.zero_mul] at h1
  omega
 ·injection hx with hA _ hc
  have hl:vs.length=n*sz:=h.1
  refine ⟨g,hA,(Array.getElem?_eq_some_iff.1 hgg).1,?_,?_⟩
  ·rw [cell_of_row w g _ cur _ (0,0) hgg,←hv,←h4,List.getElem?_take_of_lt (by omega),Array.getElem?_toList]
  ·simp [World.frozen?,hgg]
theorem OwnV.store {g:Nat} (h:OwnV e 1 w (some ⟨g,0,none⟩) c n vs) {i:Nat} (hi:i<n) (v:Value):OwnV e 1 (w.setCell ⟨g,i,none⟩ v) (some ⟨g,0,none⟩) c n (vs.set i v):=by
 refine ⟨by rw [List.length_set];exact h.1,?_⟩
 rcases h.2 with ⟨hx,hn⟩ | ⟨g',cap,cur,hx,hB,hgg,h1,h2,h3,h4⟩
 ·exact absurd hx (by simp)
 ·injection hx with hA _ hc
  injection hA with hA
  obtain rfl:g=g':=by injection hA
  have hs:=Holds.stored (show Holds w g e cur from hgg) i v
  refine .inr ⟨g,cap,_,by rw [hc],hB,hs,h1,h2,by rw [Array.size_setIfInBounds];exact h3,?_⟩
  rw [Array.toList_setIfInBounds,←h4,List.take_set]
end

/-- An append of one element in a list's order. -/
theorem wpList_pushV {P:Program} (w:World) {ops:Array Oper} {rest:List Oper} {o:Oper} {a:Act} {Q:Exit→Act→World→Prop} (hgd:o.guard=none) (s x:Operand) (t:TypeId)
  (ho:o.op = .call { callee:=.builtin .append,args:=#[s,x],argTypes:=#[t,t] }) (e:TypeId) (z:Value) (sz by_:Nat) (ht:P.underlying t=some (.slice e)) (hi:(P.info? e).map (fun i=>(i.zero,i.size,i.bytes))=some (some z,sz,by_)) (hz:z.cells.size=sz) (hsz0:0<sz) (hby:by_≤100)
  {A:Option Addr} {n c:Nat} {vs:List Value} (hs:a.eval s = .slice A n c) (hw:OwnV e sz w A c n vs)
  {g c2:Nat} {cs:List Value} (hx:a.eval x = .slice (some ⟨g,0,none⟩) 1 c2) (hl:cs.length=sz) (h1:∀ u∈cs,u.oneCell'=true) (hg:Holds w g e cs.toArray) (hn:n≤100000)
  (hK:∀ g' c' w',OwnV e sz w' (some ⟨g',0,none⟩) c' (n+1) (vs ++ cs)→w.grownBy w' (blockOf A)→(blockOf A=some g'∨g'=w.heap.size)→g' < w'.heap.size→wpList P ops Q rest (a.put o.dst (.slice (some ⟨g',0,none⟩) (n+1) c')) w') :
  wpList P ops Q (o :: rest) a w:=by
 obtain ⟨i,hi',hz',hsize,hbytes⟩:=info_parts hi
 refine wpList_append_lies w hgd s x t ho 0 e i z sz by_ ht hi' hz' hsize hbytes hz hsz0 (.slice A n c) n vs hs hw ⟨g,0,none⟩ 1 c2 cs hx (by omega)
  (fun j u hu=>World.news_of_block (cs:=cs.toArray) hg j u (by simpa using hu)) h1 (by omega) (by unfold maxLen;omega) (Nat.le_trans (Nat.mul_le_mul (show n+1≤100001 by omega) hby) (by omega)) (Nat.zero_le _) w.heap.size rfl ?_
 intro g' cap w' hown' hgr hat hlt
 rw [ownBlock_eq] at hgr hat
 exact hK g' cap w' hown' hgr hat hlt
theorem info_byte:(Tryz.prog.info? 5).map (fun i=>(i.zero,i.size,i.bytes))=some (some (.int .u8 0),1,1):=by kernel_rfl
theorem vals_fromB {w:World} {B:Nat} {A:Option Addr} {c:Nat} {l:List Nat} (hr:Rd .u8 w B A c l) (h:0<l.length):∃ ad,A=some ad∧∀ j v,(vals .u8 l)[j]?=some v→w.cell? (ad.add j)=some v:=by
 obtain ⟨b,off,rfl,hb,hc⟩:=hr.2.2 h
 refine ⟨_,rfl,fun j v hv=>?_⟩
 have hj:j<l.length:=by
  have:=(List.getElem?_eq_some_iff.1 hv).1
  simpa [vals] using this
 rw [Addr.add_lit,hc j hj,←hv]
 simp [vals,List.getD,hj]
/-- A sector copied. -/
theorem run_sector (w:World) (n:Nat) {B:Nat} {A:Option Addr} {c:Nat} {l:List Nat} (hr:Rd .u8 w B A c l) (hl:l.length=n) (h0:0<n) (hn:n≤1000) (g:Nat) (hg:w.heap[g]?=some (.cells #[] 5 (0,0))) (ty:TypeId) :
  ∃ g' c2 w',(Builtin.append_ #[44,44] ty #[.slice (some ⟨g,0,none⟩) 0 0,.slice A n c]).run Tryz.prog w = .ok (.slice (some ⟨g',0,none⟩) n c2) w'∧w.grownBy w' (some g)∧Rd .u8 w' w'.heap.size (some ⟨g',0,none⟩) c2 l∧(g'=g∨g'=w.heap.size)∧g' < w'.heap.size:=by
 subst hl
 obtain ⟨i,hi,hz,hsize,hby⟩:=info_parts info_byte
 obtain ⟨ad,rfl,hnews⟩:=vals_fromB hr h0
 obtain ⟨g',cap,w',hrun,hown,hgr,hat,hlt⟩:=run_append_lies (P:=Tryz.prog) w 44 ty 0 5 i (.int .u8 0) 1 1 Tryz.underlying44 hi hz hsize hby rfl (by omega)
  (.slice (some ⟨g,0,none⟩) 0 0) 0 [] ⟨rfl,.inr ⟨g,0,#[],rfl,Nat.zero_le _,hg,Nat.le_refl _,Nat.zero_le _,rfl,rfl⟩⟩ ad l.length c (vals .u8 l) (by rw [vals_length];omega) hnews (vals_one .u8 l) h0 (by simp [maxLen];omega) (by omega) (Nat.zero_le _) w.heap.size rfl
 rw [Nat.zero_add,List.nil_append] at hown
 rw [Nat.zero_add] at hrun
 refine ⟨g',cap,w',hrun,hgr,?_,?_,hlt⟩
 ·have hown':Own .u8 5 w' 0 (some ⟨g',0,none⟩) cap l:=hown
  exact hown'.rd
 ·rcases hat with h | h
  ·exact .inl (by simpa [Value.ownBlock] using h.symm)
  ·exact .inr h
/-! What is kept, what falls back: all as one. -/
theorem fallN_snoc (kp:Nat→Bool) (W:List (Nat×List Nat)) (p:Nat×List Nat) (L:List (List Nat)):∀ k,k≤W.length→fallN kp (W ++ [p]) L k=fallN kp W L k
 | 0,_=>rfl
 | k+1,hk=>by
  have e:(W ++ [p]).getD k default=W.getD k default:=by simp [List.getD,List.getElem?_append_left (show k<W.length by omega)]
  rw [fallN,fallN,e,fallN_snoc kp W p L k (by omega)]
/-- Where no write goes nothing turns. -/
theorem fallN_off (kp:Nat→Bool) (W:List (Nat×List Nat)) (L:List (List Nat)) (i:Nat):∀ k,(∀ j,j<k→(W.getD j default).1≠i)→(fallN kp W L k)[i]?=L[i]?
 | 0,_=>rfl
 | k+1,h=>by
  rw [fallN]
  have ih:=fallN_off kp W L i k (fun j hj=>h j (by omega))
  split
  ·rw [List.getElem?_set_ne (h k (by omega)),ih]
  ·exact ih
theorem backN_at (L now:List (List Nat)) (W:List (Nat×List Nat)) (hl:now.length=L.length) (i:Nat):∀ k,(∃ j,j<k∧(W.getD j default).1=i)→i<L.length→(backN L W now k)[i]?=L[i]?
 | 0,h,_=>by obtain ⟨j,hj,_⟩:=h;omega
 | k+1,h,hi=>by
  rw [backN]
  by_cases e:(W.getD k default).1=i
  ·rw [e,List.getElem?_set_self (by rw [backN_length,hl];exact hi)]
   simp [List.getD,hi]
  ·rw [List.getElem?_set_ne e]
   obtain ⟨j,hj,he⟩:=h
   exact backN_at L now W hl i k ⟨j,by
    rcases Nat.lt_or_ge j k with h' | h'
    ·exact h'
    ·obtain rfl:j=k:=by omega
     exact absurd he e,he⟩ hi
theorem backN_off (L now:List (List Nat)) (W:List (Nat×List Nat)) (i:Nat):∀ k,(∀ j,j<k→(W.getD j default).1≠i)→(backN L W now k)[i]?=now[i]?
 | 0,_=>rfl
 | k+1,h=>by
  rw [backN,List.getElem?_set_ne (h k (by omega))]
  exact backN_off L now W i k fun j hj=>h j (by omega)
/-- Taken back, all is what lasts. -/
theorem back_all (kp:Nat→Bool) (W:List (Nat×List Nat)) (L:List (List Nat)):backN (fallN kp W L W.length) W (fallN (fun _=>true) W L W.length) W.length=fallN kp W L W.length:=by
 apply List.ext_getElem?
 intro i
 by_cases hi:i<L.length
 ·by_cases h:∃ j,j<W.length∧(W.getD j default).1=i
  ·exact backN_at _ _ W (by rw [fallN_length,fallN_length]) i _ h (by rw [fallN_length];exact hi)
  ·have h':∀ j,j<W.length→(W.getD j default).1≠i:=fun j hj e=>h ⟨j,hj,e⟩
   rw [backN_off _ _ _ _ _ h',fallN_off _ _ _ _ _ h',fallN_off _ _ _ _ _ h']
 ·rw [List.getElem?_eq_none (by rw [backN_length,fallN_length];omega),List.getElem?_eq_none (by rw [fallN_length];omega)]
theorem back_lasts (W:List (Nat×List Nat)) (L:List (List Nat)):backN L W (fallN (fun _=>true) W L W.length) W.length=L:=by
 have h0:∀ k,fallN (fun _=>false) W L k=L:=fun k=>by
  induction k with
  | zero=>rfl
  | succ k ih=>rw [fallN,if_neg (by decide),ih]
 have:=back_all (fun _=>false) W L
 rwa [h0] at this
/-- What Read tells is what would last if all did. -/
def Dk.Sound (s:Dk):Prop:=s.now=fallN (fun _=>true) s.waits s.lasts s.waits.length
theorem sound_fresh (n:Nat):(fresh n).Sound:=rfl
theorem Dk.Sound.wrote {s:Dk} (h:s.Sound) (i:Nat) (x:List Nat):(s.wrote i x).Sound:=by
 show s.now.set i x=fallN _ (s.waits ++ [(i,x)]) s.lasts (s.waits ++ [(i,x)]).length
 rw [List.length_append,List.length_singleton,fallN,if_pos rfl,fallN_snoc _ _ _ _ _ (Nat.le_refl _),show (s.waits ++ [(i,x)]).getD s.waits.length default=(i,x) by simp [List.getD],←h]
theorem Dk.Sound.flushed {s:Dk} (h:s.Sound):s.flushed.Sound:=h
theorem Dk.Sound.fall {s:Dk} (h:s.Sound):s.fall.Sound:=by
 show backN s.kept s.waits s.now s.waits.length=s.kept
 rw [h]
 exact back_all _ _ _
theorem Dk.Sound.restart {s:Dk} (h:s.Sound):s.restart.Sound:=by
 show backN s.lasts s.waits s.now s.waits.length=s.lasts
 rw [h]
 exact back_lasts _ _
theorem Dk.Sound.arm {s:Dk} (h:s.Sound) (a:Int) (k:List Bool):(s.arm a k).Sound:=h
theorem Dk.Sound.write {s:Dk} (h:s.Sound) (i:Int) (x:List Nat):(s.write i x).1.Sound:=by
 unfold Dk.write
 split
 ·exact h
 ·split
  ·split
   ·exact h.fall
   ·exact h.wrote _ _
  ·exact h
theorem Dk.Sound.flush {s:Dk} (h:s.Sound):s.flush.1.Sound:=by
 unfold Dk.flush
 split
 ·exact h
 ·split
  ·exact h.fall
  ·exact h.flushed
end Go.Proofs.YtnedpkhehiijhaaGreat
namespace Go.Proofs.YtnedpkhehiijhaaGreat
open Go.RowKit
set_option linter.unusedVariables false
set_option linter.unusedSimpArgs false

def rcells (gS n cS:Nat) (A:Option Addr) (m cw ops:Nat) (at_:Int) (K:Option Addr) (k ck:Nat) (armed down:Bool):Array Value :=
 #[.slice (some ⟨gS,0,none⟩) n cS,.slice A m cw,.int .i64 (ops:Int),.int .i64 at_,.slice K k ck,.bool armed,.bool down]
def rslot (r:Rw):Value:=.slice r.a r.l.length r.c
def wslot (p:Nat×Rw):List Value:=[.int .i64 (p.1:Int),rslot p.2]
/-- A sector's bytes lie aside from what turns. -/
def Good (w:World) (gx gS:Nat) (A:Option Addr) (r:Rw):Prop :=
 Rd .u8 w w.heap.size r.a r.c r.l∧r.l.length=64∧∀ g,blockOf r.a=some g→g≠gx∧g≠gS∧blockOf A≠some g
theorem Rd.lt {w:World} {B:Nat} {A:Option Addr} {c:Nat} {l:List Nat} (h:Rd .u8 w B A c l) (h0:0<l.length) {g:Nat} (hg:blockOf A=some g):g<B:=by
 obtain ⟨b,off,rfl,hb,_⟩:=h.2.2 h0
 obtain rfl:b=g:=by simpa [blockOf] using hg
 exact hb
theorem Rd.keepB {w w':World} {A:Option Addr} {c:Nat} {l:List Nat} (h:Rd .u8 w w.heap.size A c l) (hs:w.heap.size≤w'.heap.size) (hk:∀ g,blockOf A=some g→g<w.heap.size→w'.heap[g]?=w.heap[g]?):Rd .u8 w' w'.heap.size A c l :=
 ⟨h.1,h.2.1,fun hn=>by
  obtain ⟨b,off,rfl,hb,hc⟩:=h.2.2 hn
  exact ⟨b,off,rfl,Nat.lt_of_lt_of_le hb hs,fun j hj=>(World.cell?_of_block (a:=⟨b,off+j,none⟩) (hk b rfl hb)).trans (hc j hj)⟩⟩
theorem Good.keep {w w':World} {gx gS:Nat} {A:Option Addr} {r:Rw} (h:Good w gx gS A r) (hs:w.heap.size≤w'.heap.size) (hk:∀ g,blockOf r.a=some g→g<w.heap.size→w'.heap[g]?=w.heap[g]?):Good w' gx gS A r :=
 ⟨h.1.keepB hs hk,h.2⟩

structure RfAt (w:World) (gx gS cS:Nat) (A:Option Addr) (cw:Nat) (K:Option Addr) (ck:Nat) (at_:Int) (kl:List Bool) (rs:List Rw) (ws:List (Nat×Rw)) (s:Dk):Prop where
 hd:Holds w gx 114 (rcells gS rs.length cS A ws.length cw s.ops at_ K kl.length ck s.armed s.down)
 hS:OwnV 44 1 w (some ⟨gS,0,none⟩) cS rs.length (rs.map rslot)
 hW:OwnV 132 2 w A cw ws.length (ws.flatMap wslot)
 rd:∀ r∈rs,Good w gx gS A r
 wd:∀ p∈ws,Good w gx gS A p.2
 hk:Truths w K ck kl
 eS:rs.map (fun r=>r.l)=s.lasts
 eW:ws.map (fun p=>(p.1,p.2.l))=s.waits
 ea:s.armed=true→at_=s.at_∧kl=s.keep
 xs:gx≠gS
 ax:blockOf A≠some gx∧blockOf A≠some gS
 kx:∀ g,blockOf K=some g→g<w.heap.size∧g≠gx∧g≠gS∧blockOf A≠some g
 n1:1≤rs.length
 n2:rs.length≤2000
 wat:∀ p∈ws,p.1<rs.length
section
variable {w w':World} {gx gS cS:Nat} {A:Option Addr} {cw:Nat} {K:Option Addr} {ck:Nat} {at_:Int} {kl:List Bool} {rs:List Rw} {ws:List (Nat×Rw)} {s s':Dk}
/-- Every block of its. -/
def RfBlk (gx gS:Nat) (A K:Option Addr) (rs:List Rw) (ws:List (Nat×Rw)) (g:Nat):Prop :=
 g=gx∨g=gS∨blockOf A=some g∨blockOf K=some g∨(∃ r∈rs,blockOf r.a=some g)∨∃ p∈ws,blockOf p.2.a=some g
theorem RfAt.lt (h:RfAt w gx gS cS A cw K ck at_ kl rs ws s) {g:Nat} (hg:RfBlk gx gS A K rs ws g):g<w.heap.size:=by
 rcases hg with rfl | rfl | hg | hg | ⟨r,hr,hg⟩ | ⟨p,hp,hg⟩
 ·exact Holds.lt h.hd
 ·exact h.hS.lt rfl
 ·exact h.hW.lt hg
 ·exact (h.kx g hg).1
 ·exact (h.rd r hr).1.lt (by rw [(h.rd r hr).2.1];omega) hg
 ·exact (h.wd p hp).1.lt (by rw [(h.wd p hp).2.1];omega) hg
/-- Kept when its blocks are. -/
theorem RfAt.keepAll (h:RfAt w gx gS cS A cw K ck at_ kl rs ws s) (hs:w.heap.size≤w'.heap.size) (hk:∀ g,RfBlk gx gS A K rs ws g→g<w.heap.size→w'.heap[g]?=w.heap[g]?):RfAt w' gx gS cS A cw K ck at_ kl rs ws s :=
 {h with
  hd:=(hk gx (.inl rfl) (Holds.lt h.hd)).trans h.hd
  hS:=h.hS.keep fun g hg hlt=>hk g (.inr (.inl (by simpa [blockOf] using hg.symm))) hlt
  hW:=h.hW.keep fun g hg hlt=>hk g (.inr (.inr (.inl hg))) hlt
  rd:=fun r hr=>(h.rd r hr).keep hs fun g hg hlt=>hk g (.inr (.inr (.inr (.inr (.inl ⟨r,hr,hg⟩))))) hlt
  wd:=fun p hp=>(h.wd p hp).keep hs fun g hg hlt=>hk g (.inr (.inr (.inr (.inr (.inr ⟨p,hp,hg⟩))))) hlt
  hk:=h.hk.keep hs fun g hg hlt=>hk g (.inr (.inr (.inr (.inl hg)))) hlt
  kx:=fun g hg=>⟨Nat.lt_of_lt_of_le (h.kx g hg).1 hs,(h.kx g hg).2⟩ }
theorem RfAt.under (h:RfAt w gx gS cS A cw K ck at_ kl rs ws s) (hb:Below w.heap.size w w'):RfAt w' gx gS cS A cw K ck at_ kl rs ws s:=h.keepAll hb.size fun g _ hlt=>hb.block g hlt
/-- Only its own cells turn. -/
theorem RfAt.re (h:RfAt w gx gS cS A cw K ck at_ kl rs ws s) (hs:w.heap.size≤w'.heap.size) (hk:∀ g,g≠gx→g<w.heap.size→w'.heap[g]?=w.heap[g]?)
  (hd:Holds w' gx 114 (rcells gS rs.length cS A ws.length cw s'.ops at_ K kl.length ck s'.armed s'.down)) (e1:s'.lasts=s.lasts) (e2:s'.waits=s.waits) (ea:s'.armed=true→at_=s'.at_∧kl=s'.keep) :
  RfAt w' gx gS cS A cw K ck at_ kl rs ws s' :=
 {hd:=hd
  hS:=h.hS.keep fun g hg hlt=>hk g (by obtain rfl:gS=g:=by simpa [blockOf] using hg
                                       exact h.xs.symm) hlt
  hW:=h.hW.keep fun g hg hlt=>hk g (fun e=>h.ax.1 (by rw [hg,e])) hlt
  rd:=fun r hr=>(h.rd r hr).keep hs fun g hg hlt=>hk g ((h.rd r hr).2.2 g hg).1 hlt
  wd:=fun p hp=>(h.wd p hp).keep hs fun g hg hlt=>hk g ((h.wd p hp).2.2 g hg).1 hlt
  hk:=h.hk.keep hs fun g hg hlt=>hk g (h.kx g hg).2.1 hlt
  eS:=by rw [e1];exact h.eS
  eW:=by rw [e2];exact h.eW
  ea:=ea
  xs:=h.xs
  ax:=h.ax
  kx:=fun g hg=>⟨Nat.lt_of_lt_of_le (h.kx g hg).1 hs,(h.kx g hg).2⟩
  n1:=h.n1
  n2:=h.n2
  wat:=h.wat }
theorem RfAt.cell (h:RfAt w gx gS cS A cw K ck at_ kl rs ws s) (i:Nat):w.cell? ⟨gx,i,none⟩=(rcells gS rs.length cS A ws.length cw s.ops at_ K kl.length ck s.armed s.down)[i]?:=h.hd.cell i
/-- A sector's row. -/
theorem RfAt.row (h:RfAt w gx gS cS A cw K ck at_ kl rs ws s) {i:Nat} (hi:i<rs.length):w.cell? ⟨gS,i,none⟩=some (.slice (rs.getD i default).a 64 (rs.getD i default).c)∧w.frozen? ⟨gS,i,none⟩=false∧Rd .u8 w w.heap.size (rs.getD i default).a (rs.getD i default).c (rs.getD i default).l∧(rs.getD i default).l=s.lasts.getD i []∧(rs.getD i default).l.length=64:=by
 have e:rs[i]?=some (rs.getD i default):=by simp [List.getD,hi]
 have hg:=h.rd _ (List.mem_of_getElem? e)
 obtain ⟨g,hA,_,hc,hf⟩:=h.hS.at_ (j:=i) (v:=rslot (rs.getD i default)) (by rw [List.getElem?_map,e];rfl)
 injection hA with hA
 obtain rfl:gS=g:=by injection hA
 refine ⟨by rw [hc,rslot,hg.2.1],hf,hg.1,?_,hg.2.1⟩
 rw [←h.eS]
 simp [List.getD,hi]
/-- A write that waits. -/
theorem RfAt.wait (h:RfAt w gx gS cS A cw K ck at_ kl rs ws s) {k:Nat} (hk:k<ws.length):∃ g,A=some ⟨g,0,none⟩∧w.cell? ⟨g,k*2,none⟩=some (.int .i64 ((ws.getD k default).1:Int))∧w.cell? ⟨g,k*2+1,none⟩=some (.slice (ws.getD k default).2.a 64 (ws.getD k default).2.c)∧Rd .u8 w w.heap.size (ws.getD k default).2.a (ws.getD k default).2.c (ws.getD k default).2.l∧((ws.getD k default).1,(ws.getD k default).2.l)=s.waits.getD k default∧(ws.getD k default).2.l.length=64∧(ws.getD k default).1<rs.length:=by
 have e:ws[k]?=some (ws.getD k default):=by simp [List.getD,hk]
 have hm:=List.mem_of_getElem? e
 have hg:=h.wd _ hm
 have f0:=flat_at (f:=wslot) (m:=2) (L:=ws) (fun _ _=>rfl) e (j:=0) (by omega)
 have f1:=flat_at (f:=wslot) (m:=2) (L:=ws) (fun _ _=>rfl) e (j:=1) (by omega)
 obtain ⟨g,hA,_,hc,_⟩:=h.hW.at_ (j:=2*k+0) (v:=.int .i64 ((ws.getD k default).1:Int)) (by rw [f0];rfl)
 obtain ⟨g1,hA1,_,hc1,_⟩:=h.hW.at_ (j:=2*k+1) (v:=rslot (ws.getD k default).2) (by rw [f1];rfl)
 rw [hA] at hA1
 injection hA1 with hA1
 obtain rfl:g=g1:=by injection hA1
 refine ⟨g,hA,by rw [show k*2=2*k+0 by omega];exact hc,by rw [show k*2+1=2*k+1 by omega,hc1,rslot,hg.2.1],hg.1,?_,hg.2.1,h.wat _ hm⟩
 rw [←h.eW]
 simp [List.getD,hk]
end

def RelRd (w:World) (gx gS cS:Nat) (A:Option Addr) (cw:Nat) (K:Option Addr) (ck:Nat) (at_:Int) (kl:List Bool) (rs:List Rw) (ws:List (Nat×Rw)) (s:Dk) (i m:Nat) (b k:Value) (wr:World):Prop :=
 ∃ (j:Nat) (a:Option Addr) (c:Nat),j≤m∧k = .int .i64 j∧b = .slice a 64 c∧w=wr∧Rd .u8 w w.heap.size a c ((fallN (fun _=>true) s.waits s.lasts j).getD i [])∧((fallN (fun _=>true) s.waits s.lasts j).getD i []).length=64

end Go.Proofs.YtnedpkhehiijhaaGreat
