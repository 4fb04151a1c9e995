/- Words and laws for the statement, part 17. -/
import Derived.Test.YtcibjcgipfpniaaGreatDoorG16
namespace Go.Proofs.YtcibjcgipfpniaaGreatDoor
open Go.RowKit
set_option linter.unusedVariables false
attribute [local go_sem ↓] Go.wp_at_zero Go.wp_at_succ

theorem is_short {b:List Nat} {nk:Nat} {t:Int} (h:IsTime 23 b nk t):∃ x,IsDate t x∧1950≤x.y∧x.y<2050∧(b.drop 0).take 2=dig2 (x.y % 100)∧(b.drop 2).take 2=dig2 x.m∧(b.drop 4).take 2=dig2 x.d∧(b.drop 6).take 2=dig2 x.h∧(b.drop 8).take 2=dig2 x.i∧(b.drop 10).take 2=dig2 x.s:=by
 obtain ⟨x,h0,h1,hx,ht,rfl,rfl⟩:=h
 have hy:x.y<2050:=by
  rcases Nat.lt_or_ge x.y 2050 with h | h
  ·exact h
  ·unfold tagOf at ht;rw [if_pos h] at ht;cases ht
 refine ⟨x,hx,hx.y1950,hy,?_⟩
 rw [body_short hy]
 exact ⟨rfl,rfl,rfl,rfl,rfl,rfl⟩
theorem is_long {b:List Nat} {nk:Nat} {t:Int} (h:IsTime 24 b nk t):∃ x,IsDate t x∧1950≤x.y∧2050≤x.y∧(b.drop 0).take 4=dig2 (x.y / 100) ++ dig2 (x.y % 100)∧(b.drop 4).take 2=dig2 x.m∧(b.drop 6).take 2=dig2 x.d∧(b.drop 8).take 2=dig2 x.h∧(b.drop 10).take 2=dig2 x.i∧(b.drop 12).take 2=dig2 x.s:=by
 obtain ⟨x,h0,h1,hx,ht,rfl,rfl⟩:=h
 have hy:2050≤x.y:=by
  rcases Nat.lt_or_ge x.y 2050 with h | h
  ·unfold tagOf at ht;rw [if_neg (by omega)] at ht;cases ht
  ·exact h
 refine ⟨x,hx,hx.y1950,hy,?_⟩
 rw [body_long hy]
 exact ⟨rfl,rfl,rfl,rfl,rfl,rfl⟩
/-- The time that these numbers say, as the document reckons it. -/
def sayR (Y F0:Nat) (f1 f2 f3 f4:Int):Int:=((num Y F0 1:Int) - 712163+f1 - 1)*86400+(f2*3600+f3*60+f4) - 631152000
theorem sayR_is {t:Int} {x:Parts6} (h:IsDate t x):sayR x.y x.m x.d x.h x.i x.s=t:=by
 unfold sayR
 have a:=h.tot
 have b:=num_day x.y x.m x.d h.valid.d1
 have c:=h.valid.d1
 omega
/-- What is known of the numbers read, and what they must be of a time. -/
structure Read6 (tag:Nat) (b:List Nat) (nk:Nat) (y f0 f1 f2 f3 f4:Int):Prop where
 is:∀ t,IsTime tag b nk t→∃ x,IsDate t x∧1950≤x.y∧y=x.y∧f0=x.m∧f1=x.d∧f2=x.h∧f3=x.i∧f4=x.s
theorem read_short {b:List Nat} {nk:Nat} {v f0 f1 f2 f3 f4:Int} (hv:Says ((b.drop 0).take 2) v) (h0:Says ((b.drop 2).take 2) f0) (h1:Says ((b.drop 4).take 2) f1) (h2:Says ((b.drop 6).take 2) f2) (h3:Says ((b.drop 8).take 2) f3) (h4:Says ((b.drop 10).take 2) f4) :
  Read6 23 b nk (if v+1900<1950 then v+1900+100 else v+1900) f0 f1 f2 f3 f4:=by
 refine ⟨fun t ht=>?_⟩
 obtain ⟨x,hx,hy,hy',e0,e1,e2,e3,e4,e5⟩:=is_short ht
 have a1:=hx.valid.m12
 have a2:=hx.valid.d31
 have a3:=hx.h23
 have a4:=hx.i59
 have a5:=hx.s59
 rw [e0] at hv;rw [e1] at h0;rw [e2] at h1;rw [e3] at h2;rw [e4] at h3;rw [e5] at h4
 refine ⟨x,hx,hy,?_,h0.one (says_dig2 (by omega)),h1.one (says_dig2 (by omega)),h2.one (says_dig2 (by omega)),h3.one (says_dig2 (by omega)),h4.one (says_dig2 (by omega))⟩
 have:=hv.one (says_dig2 (by omega))
 split <;> omega
theorem read_long {b:List Nat} {nk:Nat} {v f0 f1 f2 f3 f4:Int} (hv:Says ((b.drop 0).take 4) v) (h0:Says ((b.drop 4).take 2) f0) (h1:Says ((b.drop 6).take 2) f1) (h2:Says ((b.drop 8).take 2) f2) (h3:Says ((b.drop 10).take 2) f3) (h4:Says ((b.drop 12).take 2) f4) :
  Read6 24 b nk v f0 f1 f2 f3 f4:=by
 refine ⟨fun t ht=>?_⟩
 obtain ⟨x,hx,hy,hy',e0,e1,e2,e3,e4,e5⟩:=is_long ht
 have a0:=hx.y9999
 have a1:=hx.valid.m12
 have a2:=hx.valid.d31
 have a3:=hx.h23
 have a4:=hx.i59
 have a5:=hx.s59
 rw [e0] at hv;rw [e1] at h0;rw [e2] at h1;rw [e3] at h2;rw [e4] at h3;rw [e5] at h4
 exact ⟨x,hx,hy,hv.one (says_dig4 (by omega)),h0.one (says_dig2 (by omega)),h1.one (says_dig2 (by omega)),h2.one (says_dig2 (by omega)),h3.one (says_dig2 (by omega)),h4.one (says_dig2 (by omega))⟩
theorem oct_part {b:List Nat} (h:Oct8 b) (j m:Nat):Oct8 ((b.drop j).take m):=fun x hx=>h x (List.mem_of_mem_drop (List.mem_of_mem_take hx))

/-- What stands while the document reads: the thing, its body, the five numbers. -/
structure Mg (w W:World) (box:Array Value) (B bl off c:Nat) (b:List Nat) (cs:Array Value):Prop where
 box:Holds W w.heap.size 32 box
 f:Holds W (w.heap.size+1) 136 cs
 rd:Rd .u8 W B (some ⟨bl,off,none⟩) c b
 bel:Below w.heap.size w W
section
variable {w W W1:World} {box cs:Array Value} {B bl off c:Nat} {b:List Nat}
theorem Mg.drewN (h:Mg w W box B bl off c b cs) (n:Nat):Mg w (W.drewN n) box B bl off c b cs:=⟨h.box,h.f,h.rd,below_drewN h.bel n⟩
theorem Mg.set (h:Mg w W box B bl off c b cs) (hB:B≤w.heap.size) (i:Nat) (v:Value):Mg w (W.setCell ⟨w.heap.size+1,i,none⟩ v) box B bl off c b (cs.setIfInBounds i v) :=
 ⟨h.box.aside (by simp) _,h.f.stored i v,h.rd.keep (fun b' o' hb=>by rw [World.cell?_setCell_other];intro e;injection e with e1;omega),h.bel.setCell (by simp) _⟩
theorem Mg.under (h:Mg w W box B bl off c b cs) (hB:B≤w.heap.size) (hb:Below W.heap.size W W1):Mg w W1 box B bl off c b cs :=
 ⟨h.box.under hb (Holds.lt h.box),h.f.under hb (Holds.lt h.f),h.rd.under (hb.mono (by have:=Holds.lt h.f;omega)),h.bel.trans (hb.mono h.bel.size)⟩
end

set_option maxRecDepth 100000 in
set_option maxHeartbeats 8000000 in
theorem get'_short (w:World) (B:Nat) (bl off c:Nat) (b:List Nat) (hn:b.length=13) (hr:Rd .u8 w B (some ⟨bl,off,none⟩) c b) (hB:B≤w.heap.size) (ho:Oct8 b) (K:Option Addr) (kc:Nat) :
  Calls Tryz.prog 100 #[.agg #[.int .u8 23,.slice (some ⟨bl,off,none⟩) 13 c,.slice K 0 kc]] w (GetPost w 23 b 0):=by
 have hlc:13≤c:=by have:=hr.1;omega
 have hc63:c≤9223372036854775807:=hr.2.1
 obtain ⟨v,s0,l0,u0,u0'⟩:=says_of ((b.drop 0).take 2)
 have p0:((b.drop 0).take 2).length=2:=by simp;omega
 have hl0:-1≤v:=l0
 have hu0:v≤99:=u0' (by omega)
 have S0:=Lib.hid s0
 have P0:=Lib.hid p0
 clear s0 p0 l0 u0 u0'
 obtain ⟨f0,s1,l1,u1,u1'⟩:=says_of ((b.drop 2).take 2)
 have p1:((b.drop 2).take 2).length=2:=by simp;omega
 have hl1:-1≤f0:=l1
 have hu1:f0≤99:=u1' (by omega)
 have S1:=Lib.hid s1
 have P1:=Lib.hid p1
 clear s1 p1 l1 u1 u1'
 obtain ⟨f1,s2,l2,u2,u2'⟩:=says_of ((b.drop 4).take 2)
 have p2:((b.drop 4).take 2).length=2:=by simp;omega
 have hl2:-1≤f1:=l2
 have hu2:f1≤99:=u2' (by omega)
 have S2:=Lib.hid s2
 have P2:=Lib.hid p2
 clear s2 p2 l2 u2 u2'
 obtain ⟨f2,s3,l3,u3,u3'⟩:=says_of ((b.drop 6).take 2)
 have p3:((b.drop 6).take 2).length=2:=by simp;omega
 have hl3:-1≤f2:=l3
 have hu3:f2≤99:=u3' (by omega)
 have S3:=Lib.hid s3
 have P3:=Lib.hid p3
 clear s3 p3 l3 u3 u3'
 obtain ⟨f3,s4,l4,u4,u4'⟩:=says_of ((b.drop 8).take 2)
 have p4:((b.drop 8).take 2).length=2:=by simp;omega
 have hl4:-1≤f3:=l4
 have hu4:f3≤99:=u4' (by omega)
 have S4:=Lib.hid s4
 have P4:=Lib.hid p4
 clear s4 p4 l4 u4 u4'
 obtain ⟨f4,s5,l5,u5,u5'⟩:=says_of ((b.drop 10).take 2)
 have p5:((b.drop 10).take 2).length=2:=by simp;omega
 have hl5:-1≤f4:=l5
 have hu5:f4≤99:=u5' (by omega)
 have S5:=Lib.hid s5
 have P5:=Lib.hid p5
 clear s5 p5 l5 u5 u5'
 have HR6:=Lib.hid (read_short (nk:=0) S0.out S1.out S2.out S3.out S4.out S5.out)
 have hcj2:¬ c=2:=by omega
 have hcj4:¬ c=4:=by omega
 have hcj6:¬ c=6:=by omega
 have hcj8:¬ c=8:=by omega
 have hcj10:¬ c=10:=by omega
 have hbox:=Holds.fresh w 32 #[.int .u8 23,.slice (some ⟨bl,off,none⟩) 13 c,.slice K 0 kc]
 have hrb:=hr.alloc hB (.cells #[.int .u8 23,.slice (some ⟨bl,off,none⟩) 13 c,.slice K 0 kc] 32)
 have hbel:Below w.heap.size w (w.alloc (.cells #[.int .u8 23,.slice (some ⟨bl,off,none⟩) 13 c,.slice K 0 kc] 32)):=(Below.refl _ _).alloc (Nat.le_refl _) _
 have HRB:=Lib.hid hrb
 have HBX:=Lib.hid hbox
 have HBL:=Lib.hid hbel
 have HB:=Lib.hid hn
 clear hr hrb hbox hbel hn
 go_enter Tryz.func100,Tryz.ntmps100
 go_wp2_with fail
 have hp:=Lib.hid (HRB.out.part (j:=0) (m:=2) (by have:=HB.out;omega))
 refine (number_any _ B (some ⟨bl,off,none⟩) c 2 _ P0.out hp.out (oct_part ho _ _) (by omega) v S0.out).mono ?_
 rintro e W ⟨rfl,q,rfl⟩
 have hbx:=HBX.out.drewN q
 have hrx:=HRB.out.drewN q
 have hbl:=below_drewN HBL.out q
 have hsz:((w.alloc (.cells #[.int .u8 23,.slice (some ⟨bl,off,none⟩) 13 c,.slice K 0 kc] 32)).drewN q).heap.size=w.heap.size+1:=by simp
 generalize (w.alloc (.cells #[.int .u8 23,.slice (some ⟨bl,off,none⟩) 13 c,.slice K 0 kc] 32)).drewN q=W at *
 have HSZ:=Lib.hid hsz
 clear hp HRB HBX HBL
 have hm:Mg w (W.alloc (.cells #[.int .i64 0,.int .i64 0,.int .i64 0,.int .i64 0,.int .i64 0] 136)) #[.int .u8 23,.slice (some ⟨bl,off,none⟩) 13 c,.slice K 0 kc] B bl off c b #[.int .i64 0,.int .i64 0,.int .i64 0,.int .i64 0,.int .i64 0]:=⟨hbx.alloc _,by rw [←HSZ.out];exact Holds.fresh W _ _,hrx.alloc (by omega) _,hbl.alloc hbl.size _⟩
 have hcb:=hbx.cell
 have hcf:=hm.f.cell
 have hff:=hm.f.open_
 clear hbx hrx hbl hsz
 by_cases hv50:v+1900<1950
 ·obtain ⟨y,Hy⟩:∃ y:Int,Hid (y=v+1900+100):=⟨_,rfl⟩
  have hy1:1950≤y:=by have:=Hy.out;omega
  have hy2:y≤9999:=by have:=Hy.out;omega
  have H6:Hid (Read6 23 b 0 y f0 f1 f2 f3 f4):=Lib.hid (by have:=HR6.out;rw [if_pos hv50,←Hy.out] at this;exact this)
  go_wp2_with fail
  rw [←Hy.out,HSZ.out]
  clear hcb hcf hff
  generalize W.alloc (.cells #[.int .i64 0,.int .i64 0,.int .i64 0,.int .i64 0,.int .i64 0] 136)=V at *
  have hcb:=hm.box.cell
  have hcf:=hm.f.cell
  have hff:=hm.f.open_
  refine wp_loop_rounds 6 ?_
  rw [rounds_succ]
  go_wp2_with fail
  have hp0:=Lib.hid (hm.rd.part (j:=2) (m:=2) (by have:=HB.out;omega))
  refine (number_any _ B (some ⟨bl,off+2,none⟩) (c - 2) 2 _ P1.out hp0.out (oct_part ho _ _) (by omega) f0 S1.out).mono ?_
  rintro e W0 ⟨rfl,q0,rfl⟩
  have hd:=hm.drewN q0
  have hm2:Mg w _ #[.int .u8 23,.slice (some ⟨bl,off,none⟩) 13 c,.slice K 0 kc] B bl off c b #[.int .i64 f0,.int .i64 0,.int .i64 0,.int .i64 0,.int .i64 0]:=hd.set hB 0 (.int .i64 f0)
  clear hm hp0 hcf hff hcb
  have hcf:=hd.f.cell
  have hff:=hd.f.open_
  clear hd
  have hcb:=hm2.box.cell
  go_wp2_with fail
  have hm:=hm2
  clear hm2
  clear hcf hff hcb
  rw [rounds_succ]
  have hcb:=hm.box.cell
  have hcf:=hm.f.cell
  have hff:=hm.f.open_
  go_wp2_with fail
  have hp1:=Lib.hid (hm.rd.part (j:=4) (m:=2) (by have:=HB.out;omega))
  refine (number_any _ B (some ⟨bl,off+4,none⟩) (c - 4) 2 _ P2.out hp1.out (oct_part ho _ _) (by omega) f1 S2.out).mono ?_
  rintro e W1 ⟨rfl,q1,rfl⟩
  have hd:=hm.drewN q1
  have hm2:Mg w _ #[.int .u8 23,.slice (some ⟨bl,off,none⟩) 13 c,.slice K 0 kc] B bl off c b #[.int .i64 f0,.int .i64 f1,.int .i64 0,.int .i64 0,.int .i64 0]:=hd.set hB 1 (.int .i64 f1)
  clear hm hp1 hcf hff hcb
  have hcf:=hd.f.cell
  have hff:=hd.f.open_
  clear hd
  have hcb:=hm2.box.cell
  go_wp2_with fail
  have hm:=hm2
  clear hm2
  clear hcf hff hcb
  rw [rounds_succ]
  have hcb:=hm.box.cell
  have hcf:=hm.f.cell
  have hff:=hm.f.open_
  go_wp2_with fail
  have hp2:=Lib.hid (hm.rd.part (j:=6) (m:=2) (by have:=HB.out;omega))
  refine (number_any _ B (some ⟨bl,off+6,none⟩) (c - 6) 2 _ P3.out hp2.out (oct_part ho _ _) (by omega) f2 S3.out).mono ?_
  rintro e W2 ⟨rfl,q2,rfl⟩
  have hd:=hm.drewN q2
  have hm2:Mg w _ #[.int .u8 23,.slice (some ⟨bl,off,none⟩) 13 c,.slice K 0 kc] B bl off c b #[.int .i64 f0,.int .i64 f1,.int .i64 f2,.int .i64 0,.int .i64 0]:=hd.set hB 2 (.int .i64 f2)
  clear hm hp2 hcf hff hcb
  have hcf:=hd.f.cell
  have hff:=hd.f.open_
  clear hd
  have hcb:=hm2.box.cell
  go_wp2_with fail
  have hm:=hm2
  clear hm2
  clear hcf hff hcb
  rw [rounds_succ]
  have hcb:=hm.box.cell
  have hcf:=hm.f.cell
  have hff:=hm.f.open_
  go_wp2_with fail
  have hp3:=Lib.hid (hm.rd.part (j:=8) (m:=2) (by have:=HB.out;omega))
  refine (number_any _ B (some ⟨bl,off+8,none⟩) (c - 8) 2 _ P4.out hp3.out (oct_part ho _ _) (by omega) f3 S4.out).mono ?_
  rintro e W3 ⟨rfl,q3,rfl⟩
  have hd:=hm.drewN q3
  have hm2:Mg w _ #[.int .u8 23,.slice (some ⟨bl,off,none⟩) 13 c,.slice K 0 kc] B bl off c b #[.int .i64 f0,.int .i64 f1,.int .i64 f2,.int .i64 f3,.int .i64 0]:=hd.set hB 3 (.int .i64 f3)
  clear hm hp3 hcf hff hcb
  have hcf:=hd.f.cell
  have hff:=hd.f.open_
  clear hd
  have hcb:=hm2.box.cell
  go_wp2_with fail
  have hm:=hm2
  clear hm2
  clear hcf hff hcb
  rw [rounds_succ]
  have hcb:=hm.box.cell
  have hcf:=hm.f.cell
  have hff:=hm.f.open_
  go_wp2_with fail
  have hp4:=Lib.hid (hm.rd.part (j:=10) (m:=2) (by have:=HB.out;omega))
  refine (number_any _ B (some ⟨bl,off+10,none⟩) (c - 10) 2 _ P5.out hp4.out (oct_part ho _ _) (by omega) f4 S5.out).mono ?_
  rintro e W4 ⟨rfl,q4,rfl⟩
  have hd:=hm.drewN q4
  have hm2:Mg w _ #[.int .u8 23,.slice (some ⟨bl,off,none⟩) 13 c,.slice K 0 kc] B bl off c b #[.int .i64 f0,.int .i64 f1,.int .i64 f2,.int .i64 f3,.int .i64 f4]:=hd.set hB 4 (.int .i64 f4)
  clear hm hp4 hcf hff hcb
  have hcf:=hd.f.cell
  have hff:=hd.f.open_
  clear hd
  have hcb:=hm2.box.cell
  go_wp2_with fail
  have hm:=hm2
  clear hm2
  clear hcf hff hcb
  rw [rounds_succ]
  have hcb:=hm.box.cell
  have hcf:=hm.f.cell
  have hff:=hm.f.open_
  generalize World.setCell _ _ _=V5 at hm hcb hcf hff ⊢
  have hylow:decide (y<1950)=false:=decide_eq_false (by omega)
  by_cases hf0:1≤f0
  case neg =>
   have HN:Hid (∀ t,¬ IsTime 23 b 0 t):=Lib.hid (fun t h=>by
    obtain ⟨x,hx,_,_,e,_⟩:=H6.out.is t h
    have:=hx.valid.m1
    omega)
   have hq:decide (f0<1)=true:=decide_eq_true (by omega)
   go_wp2_with fail
   go_ret2
   exact get_noneWhen12 HN.out hm.bel
  case pos =>
  by_cases hf12:f0≤12
  case neg =>
   have HN:Hid (∀ t,¬ IsTime 23 b 0 t):=Lib.hid (fun t h=>by
    obtain ⟨x,hx,_,_,e,_⟩:=H6.out.is t h
    have:=hx.valid.m12
    omega)
   have hq:decide (f0<1)=false:=decide_eq_false (by omega)
   have hq2:decide (12<f0)=true:=decide_eq_true (by omega)
   go_wp2_with fail
   go_ret2
   exact get_noneWhen12 HN.out hm.bel
  case pos =>
  have hq:decide (f0<1)=false:=decide_eq_false (by omega)
  have hq2:decide (12<f0)=false:=decide_eq_false (by omega)
  go_wp2_with fail
  clear hq hq2 hylow
  obtain ⟨Y,hY⟩:∃ Y:Nat,y=(Y:Int):=⟨y.toNat,by omega⟩
  subst hY
  obtain ⟨F,hF⟩:∃ F:Nat,f0=(F:Int):=⟨f0.toNat,by omega⟩
  subst hF
  have hY1:1950≤Y:=by omega
  have hY2:Y≤9999:=by omega
  have hF1:1≤F:=by omega
  have hF2:F≤12:=by omega
  have HN0:Hid (num 1950 1 1=712163):=Lib.hid (by decide +kernel)
  go_loop [8,9] (fun d x=>∃ X D:Nat,1950≤X∧X≤Y∧x = .int .i64 (X:Int)∧d = .int .i64 (D:Int)∧D≤4000000∧Hid (D+712163=num X 1 1)) (fun _ x=>(Y - intOf x).toNat)
  case atStart=>exact ⟨1950,0,by omega,hY1,rfl,rfl,by omega,Lib.hid (by rw [HN0.out])⟩
  case round =>
   obtain ⟨X,D,hX1,hX2,rfl,rfl,hD,HD⟩:=hrel
   have hup:Hid (num (Y+1) 1 1≤3652365):=Lib.hid (by
    have e2:num 10000 1 1=3652365:=by decide +kernel
    have:=num_mono_year (y:=Y+1) (y':=10000) (by omega) (by omega)
    omega)
   by_cases hlt:X<Y
   ·have hXY:=num_mono_year (y:=X+1) (y':=Y+1) (by omega) (by omega)
    have HXY:=Lib.hid hXY
    clear hXY
    cases hl:leap X
    ·have HL:=Lib.hid hl
     have HYn:=Lib.hid (year_less X (by omega) hl)
     clear hl
     go_wp2_with fail
     refine (long_any _ X (by omega) false HL.out).mono ?_
     rintro e w1 ⟨rfl,rfl⟩
     go_wp2_with fail
     go_round
     case rel=>exact ⟨X+1,D+365,by omega,by omega,by go_num,by go_num,by have:=HYn.out;have:=HD.out;have:=HXY.out;have:=hup.out;omega,Lib.hid (by have:=HYn.out;have:=HD.out;omega)⟩
     case measure=>simp [intOf];omega
    ·have HL:=Lib.hid hl
     have HYn:=Lib.hid (year_more X (by omega) hl)
     clear hl
     go_wp2_with fail
     refine (long_any _ X (by omega) true HL.out).mono ?_
     rintro e w1 ⟨rfl,rfl⟩
     go_wp2_with fail
     go_round
     case rel=>exact ⟨X+1,D+366,by omega,by omega,by go_num,by go_num,by have:=HYn.out;have:=HD.out;have:=HXY.out;have:=hup.out;omega,Lib.hid (by have:=HYn.out;have:=HD.out;omega)⟩
     case measure=>simp [intOf];omega
   ·obtain rfl:X=Y:=by omega
    have hq:decide ((X:Int)<(X:Int))=false:=decide_eq_false (by omega)
    go_wp2_with fail
    go_loopw [8,10] (fun d x wr=>∃ M D:Nat,1≤M∧M≤F∧x = .int .i64 (M:Int)∧d = .int .i64 (D:Int)∧D≤4000000∧Hid (D+712163=num X M 1)∧Mg w wr #[.int .u8 23,.slice (some ⟨bl,off,none⟩) 13 c,.slice K 0 kc] B bl off c b #[.int .i64 (F:Int),.int .i64 f1,.int .i64 f2,.int .i64 f3,.int .i64 f4]) (fun _ x _=>(F - intOf x).toNat)
    case atStart=>exact ⟨1,D,by omega,hF1,rfl,rfl,hD,HD,hm⟩
    case round =>
     clear hm hcb hcf hff
     obtain ⟨M,D,hM1,hM2,rfl,rfl,hD,HD,hm⟩:=hrel
     obtain ⟨W,hW⟩:∃ W,W=wr:=⟨_,rfl⟩
     subst hW
     have hcf:=hm.f.cell
     by_cases hMF:M<F
     ·have hdim:=dim_le X M
      obtain ⟨dm,Hdm⟩:∃ dm,Hid (dim X M=dm):=⟨_,rfl⟩
      rw [Hdm.out] at hdim
      have HNX:Hid (num X (M+1) 1=num X M 1+dm):=Lib.hid (by rw [←Hdm.out];exact num_next X M (by omega) hM1 (by omega))
      have hin:Hid (num X (M+1) 1<num (X+1) 1 1):=Lib.hid (num_in (y:=X) (m:=M+1) (d:=1) ⟨by omega,by omega,by omega,by omega,by have:=dim_le X (M+1);omega⟩).2
      go_wp2_with fail
      refine (days'_any _ X M (by omega) hM1 (by omega) dm Hdm.out).mono ?_
      rintro e w1 ⟨rfl,hb1⟩
      have hm1:=hm.under hB hb1
      clear hm hb1 hcf
      go_wp2_with fail
      go_roundw
      case rel=>exact ⟨M+1,D+dm,by omega,by omega,by go_num,by go_num,by have:=HNX.out;have:=HD.out;have:=hin.out;have:=hup.out;omega,Lib.hid (by have:=HNX.out;have:=HD.out;omega),hm1⟩
      case measure=>simp [intOf];omega
     ·obtain rfl:M=F:=by omega
      have hq:decide ((M:Int)<(M:Int))=false:=decide_eq_false (by omega)
      obtain ⟨T,HT⟩:∃ T:Int,Hid (((D:Int)+f1 - 1)*86400+(f2*3600+f3*60+f4) - 631152000=T):=⟨_,rfl⟩
      have HS:Hid (∀ t,IsTime 23 b 0 t→T=t):=Lib.hid (fun t h=>by
       obtain ⟨x,hx,_,e1,e2,e3,e4,e5,e6⟩:=H6.out.is t h
       have hs:=sayR_is hx
       unfold sayR at hs
       have e7:X=x.y:=by omega
       have e8:M=x.m:=by omega
       have:=HD.out
       rw [e7,e8] at this
       have h9:=HT.out
       rw [e3,e4,e5,e6] at h9
       omega)
      go_wp2_with fail
      rw [HT.out]
      by_cases hrange:-631152000≤T∧T≤253402300799
      ·obtain ⟨hT0,hT1⟩:=hrange
       obtain ⟨x,hx⟩:=date_is T hT0 hT1
       obtain ⟨tg,Htg⟩:∃ tg,Hid (tagOf x=tg):=⟨_,rfl⟩
       obtain ⟨n,HN⟩:∃ n,Hid ((bodyOf x).length=n):=⟨_,rfl⟩
       have HX:=Lib.hid hx
       clear hx
       refine (time'_yes _ T hT0 hT1 x HX.out tg n Htg.out HN.out).mono ?_
       rintro e w2 ⟨A2,c2,rfl,hr2,hb2⟩
       have hm2:=hm.under hB hb2
       have hms:=hm2.box.alloc (.cells #[.int .u8 (tg:Int),.slice A2 n c2,.slice none 0 0] 32)
       have hrd:=hm2.rd.alloc (by have:=hm2.bel.size;omega) (.cells #[.int .u8 (tg:Int),.slice A2 n c2,.slice none 0 0] 32)
       have hr2':=hr2.alloc (Nat.le_refl _) (.cells #[.int .u8 (tg:Int),.slice A2 n c2,.slice none 0 0] 32)
       have hbl2:=hm2.bel.alloc hm2.bel.size (.cells #[.int .u8 (tg:Int),.slice A2 n c2,.slice none 0 0] 32)
       have hcv1:=conv_str hrd HB.out ho
       have hcv2:=conv_str hr2' HN.out (body_oct x)
       have hc0:w2.cell? ⟨w.heap.size,0,none⟩=some (.int .u8 23):=hm2.box.cell 0
       have hc1:w2.cell? ⟨w.heap.size,1,none⟩=some (.slice (some ⟨bl,off,none⟩) 13 c):=hm2.box.cell 1
       have hne:w.heap.size<w2.heap.size:=Holds.lt hm2.box
       have hcs:=hms.cell
       clear hm hm2 hms hrd hr2 hr2' hb2
       by_cases hI:23=tg
       ·by_cases hI2:b=bodyOf x
        ·have HI:Hid (IsTime 23 b 0 T):=Lib.hid ⟨x,hT0,hT1,HX.out,hI.trans Htg.out.symm,hI2,rfl⟩
         have hq0:((tg:Int) != 23)=false:=by rw [bne_eq_false_iff_eq];omega
         clear hI
         have hq1:((str (bodyOf x)).toList == (str b).toList)=true:=by rw [hI2];exact beq_self_eq_true _
         clear hI2
         generalize str (bodyOf x)=s1 at *
         generalize str b=s2 at *
         go_wp2_with fail
         go_ret2
         exact get_some HI.out hbl2
        ·have HI:Hid (∀ t,¬ IsTime 23 b 0 t):=Lib.hid (fun t h=>by
          obtain rfl:=HS.out t h
          obtain ⟨z,_,_,hz,a1,a2,a3⟩:=h
          obtain rfl:=IsDate.same HX.out hz
          exact hI2 a2)
         have hq0:((tg:Int) != 23)=false:=by rw [bne_eq_false_iff_eq];omega
         clear hI
         have hq1:((str (bodyOf x)).toList == (str b).toList)=false:=str_ne (body_oct x) ho (Ne.symm hI2)
         clear hI2
         generalize str (bodyOf x)=s1 at *
         generalize str b=s2 at *
         go_wp2_with fail
         go_ret2
         exact get_noneWhen12 HI.out hbl2
       ·have HI:Hid (∀ t,¬ IsTime 23 b 0 t):=Lib.hid (fun t h=>by
         obtain rfl:=HS.out t h
         obtain ⟨z,_,_,hz,a1,a2,a3⟩:=h
         obtain rfl:=IsDate.same HX.out hz
         exact hI (a1.trans Htg.out))
        have hq1:((tg:Int) != 23)=true:=by rw [bne_iff_ne];omega
        clear hI
        generalize str (bodyOf x)=s1 at *
        generalize str b=s2 at *
        go_wp2_with fail
        go_ret2
        exact get_noneWhen12 HI.out hbl2
      ·have HI:Hid (∀ t,¬ IsTime 23 b 0 t):=Lib.hid (fun t h=>by
        obtain rfl:=HS.out t h
        obtain ⟨z,h0,h1,_⟩:=h
        exact hrange ⟨h0,h1⟩)
       have hout:T < -631152000∨253402300799<T:=by omega
       clear hrange
       refine (time'_no _ T hout).mono ?_
       rintro e w2 ⟨rfl,hb2⟩
       have hm2:=hm.under hB hb2
       have hbl2:=hm2.bel.alloc hm2.bel.size (.cells #[.int .u8 0,.slice none 0 0,.slice none 0 0] 32)
       have hc0:w2.cell? ⟨w.heap.size,0,none⟩=some (.int .u8 23):=hm2.box.cell 0
       have hne:w.heap.size<w2.heap.size:=Holds.lt hm2.box
       have hcs:=(hm2.box.alloc (.cells #[.int .u8 0,.slice none 0 0,.slice none 0 0] 32)).cell
       clear hm hm2 hb2
       go_wp2_with fail
       go_ret2
       exact get_noneWhen12 HI.out hbl2
 ·obtain ⟨y,Hy⟩:∃ y:Int,Hid (y=v+1900):=⟨_,rfl⟩
  have hy1:1950≤y:=by have:=Hy.out;omega
  have hy2:y≤9999:=by have:=Hy.out;omega
  have H6:Hid (Read6 23 b 0 y f0 f1 f2 f3 f4):=Lib.hid (by have:=HR6.out;rw [if_neg hv50,←Hy.out] at this;exact this)
  have hd50:decide (v+1900<1950)=false:=decide_eq_false hv50
  go_wp2_with fail
  rw [←Hy.out,HSZ.out]
  clear hcb hcf hff
  generalize W.alloc (.cells #[.int .i64 0,.int .i64 0,.int .i64 0,.int .i64 0,.int .i64 0] 136)=V at *
  have hcb:=hm.box.cell
  have hcf:=hm.f.cell
  have hff:=hm.f.open_
  refine wp_loop_rounds 6 ?_
  rw [rounds_succ]
  go_wp2_with fail
  have hp0:=Lib.hid (hm.rd.part (j:=2) (m:=2) (by have:=HB.out;omega))
  refine (number_any _ B (some ⟨bl,off+2,none⟩) (c - 2) 2 _ P1.out hp0.out (oct_part ho _ _) (by omega) f0 S1.out).mono ?_
  rintro e W0 ⟨rfl,q0,rfl⟩
  have hd:=hm.drewN q0
  have hm2:Mg w _ #[.int .u8 23,.slice (some ⟨bl,off,none⟩) 13 c,.slice K 0 kc] B bl off c b #[.int .i64 f0,.int .i64 0,.int .i64 0,.int .i64 0,.int .i64 0]:=hd.set hB 0 (.int .i64 f0)
  clear hm hp0 hcf hff hcb
  have hcf:=hd.f.cell
  have hff:=hd.f.open_
  clear hd
  have hcb:=hm2.box.cell
  go_wp2_with fail
  have hm:=hm2
  clear hm2
  clear hcf hff hcb
  rw [rounds_succ]
  have hcb:=hm.box.cell
  have hcf:=hm.f.cell
  have hff:=hm.f.open_
  go_wp2_with fail
  have hp1:=Lib.hid (hm.rd.part (j:=4) (m:=2) (by have:=HB.out;omega))
  refine (number_any _ B (some ⟨bl,off+4,none⟩) (c - 4) 2 _ P2.out hp1.out (oct_part ho _ _) (by omega) f1 S2.out).mono ?_
  rintro e W1 ⟨rfl,q1,rfl⟩
  have hd:=hm.drewN q1
  have hm2:Mg w _ #[.int .u8 23,.slice (some ⟨bl,off,none⟩) 13 c,.slice K 0 kc] B bl off c b #[.int .i64 f0,.int .i64 f1,.int .i64 0,.int .i64 0,.int .i64 0]:=hd.set hB 1 (.int .i64 f1)
  clear hm hp1 hcf hff hcb
  have hcf:=hd.f.cell
  have hff:=hd.f.open_
  clear hd
  have hcb:=hm2.box.cell
  go_wp2_with fail
  have hm:=hm2
  clear hm2
  clear hcf hff hcb
  rw [rounds_succ]
  have hcb:=hm.box.cell
  have hcf:=hm.f.cell
  have hff:=hm.f.open_
  go_wp2_with fail
  have hp2:=Lib.hid (hm.rd.part (j:=6) (m:=2) (by have:=HB.out;omega))
  refine (number_any _ B (some ⟨bl,off+6,none⟩) (c - 6) 2 _ P3.out hp2.out (oct_part ho _ _) (by omega) f2 S3.out).mono ?_
  rintro e W2 ⟨rfl,q2,rfl⟩
  have hd:=hm.drewN q2
  have hm2:Mg w _ #[.int .u8 23,.slice (some ⟨bl,off,none⟩) 13 c,.slice K 0 kc] B bl off c b #[.int .i64 f0,.int .i64 f1,.int .i64 f2,.int .i64 0,.int .i64 0]:=hd.set hB 2 (.int .i64 f2)
  clear hm hp2 hcf hff hcb
  have hcf:=hd.f.cell
  have hff:=hd.f.open_
  clear hd
  have hcb:=hm2.box.cell
  go_wp2_with fail
  have hm:=hm2
  clear hm2
  clear hcf hff hcb
  rw [rounds_succ]
  have hcb:=hm.box.cell
  have hcf:=hm.f.cell
  have hff:=hm.f.open_
  go_wp2_with fail
  have hp3:=Lib.hid (hm.rd.part (j:=8) (m:=2) (by have:=HB.out;omega))
  refine (number_any _ B (some ⟨bl,off+8,none⟩) (c - 8) 2 _ P4.out hp3.out (oct_part ho _ _) (by omega) f3 S4.out).mono ?_
  rintro e W3 ⟨rfl,q3,rfl⟩
  have hd:=hm.drewN q3
  have hm2:Mg w _ #[.int .u8 23,.slice (some ⟨bl,off,none⟩) 13 c,.slice K 0 kc] B bl off c b #[.int .i64 f0,.int .i64 f1,.int .i64 f2,.int .i64 f3,.int .i64 0]:=hd.set hB 3 (.int .i64 f3)
  clear hm hp3 hcf hff hcb
  have hcf:=hd.f.cell
  have hff:=hd.f.open_
  clear hd
  have hcb:=hm2.box.cell
  go_wp2_with fail
  have hm:=hm2
  clear hm2
  clear hcf hff hcb
  rw [rounds_succ]
  have hcb:=hm.box.cell
  have hcf:=hm.f.cell
  have hff:=hm.f.open_
  go_wp2_with fail
  have hp4:=Lib.hid (hm.rd.part (j:=10) (m:=2) (by have:=HB.out;omega))
  refine (number_any _ B (some ⟨bl,off+10,none⟩) (c - 10) 2 _ P5.out hp4.out (oct_part ho _ _) (by omega) f4 S5.out).mono ?_
  rintro e W4 ⟨rfl,q4,rfl⟩
  have hd:=hm.drewN q4
  have hm2:Mg w _ #[.int .u8 23,.slice (some ⟨bl,off,none⟩) 13 c,.slice K 0 kc] B bl off c b #[.int .i64 f0,.int .i64 f1,.int .i64 f2,.int .i64 f3,.int .i64 f4]:=hd.set hB 4 (.int .i64 f4)
  clear hm hp4 hcf hff hcb
  have hcf:=hd.f.cell
  have hff:=hd.f.open_
  clear hd
  have hcb:=hm2.box.cell
  go_wp2_with fail
  have hm:=hm2
  clear hm2
  clear hcf hff hcb
  rw [rounds_succ]
  have hcb:=hm.box.cell
  have hcf:=hm.f.cell
  have hff:=hm.f.open_
  generalize World.setCell _ _ _=V5 at hm hcb hcf hff ⊢
  have hylow:decide (y<1950)=false:=decide_eq_false (by omega)
  by_cases hf0:1≤f0
  case neg =>
   have HN:Hid (∀ t,¬ IsTime 23 b 0 t):=Lib.hid (fun t h=>by
    obtain ⟨x,hx,_,_,e,_⟩:=H6.out.is t h
    have:=hx.valid.m1
    omega)
   have hq:decide (f0<1)=true:=decide_eq_true (by omega)
   go_wp2_with fail
   go_ret2
   exact get_noneWhen12 HN.out hm.bel
  case pos =>
  by_cases hf12:f0≤12
  case neg =>
   have HN:Hid (∀ t,¬ IsTime 23 b 0 t):=Lib.hid (fun t h=>by
    obtain ⟨x,hx,_,_,e,_⟩:=H6.out.is t h
    have:=hx.valid.m12
    omega)
   have hq:decide (f0<1)=false:=decide_eq_false (by omega)
   have hq2:decide (12<f0)=true:=decide_eq_true (by omega)
   go_wp2_with fail
   go_ret2
   exact get_noneWhen12 HN.out hm.bel
  case pos =>
  have hq:decide (f0<1)=false:=decide_eq_false (by omega)
  have hq2:decide (12<f0)=false:=decide_eq_false (by omega)
  go_wp2_with fail
  clear hq hq2 hylow
  obtain ⟨Y,hY⟩:∃ Y:Nat,y=(Y:Int):=⟨y.toNat,by omega⟩
  subst hY
  obtain ⟨F,hF⟩:∃ F:Nat,f0=(F:Int):=⟨f0.toNat,by omega⟩
  subst hF
  have hY1:1950≤Y:=by omega
  have hY2:Y≤9999:=by omega
  have hF1:1≤F:=by omega
  have hF2:F≤12:=by omega
  have HN0:Hid (num 1950 1 1=712163):=Lib.hid (by decide +kernel)
  go_loop [8,9] (fun d x=>∃ X D:Nat,1950≤X∧X≤Y∧x = .int .i64 (X:Int)∧d = .int .i64 (D:Int)∧D≤4000000∧Hid (D+712163=num X 1 1)) (fun _ x=>(Y - intOf x).toNat)
  case atStart=>exact ⟨1950,0,by omega,hY1,rfl,rfl,by omega,Lib.hid (by rw [HN0.out])⟩
  case round =>
   obtain ⟨X,D,hX1,hX2,rfl,rfl,hD,HD⟩:=hrel
   have hup:Hid (num (Y+1) 1 1≤3652365):=Lib.hid (by
    have e2:num 10000 1 1=3652365:=by decide +kernel
    have:=num_mono_year (y:=Y+1) (y':=10000) (by omega) (by omega)
    omega)
   by_cases hlt:X<Y
   ·have hXY:=num_mono_year (y:=X+1) (y':=Y+1) (by omega) (by omega)
    have HXY:=Lib.hid hXY
    clear hXY
    cases hl:leap X
    ·have HL:=Lib.hid hl
     have HYn:=Lib.hid (year_less X (by omega) hl)
     clear hl
     go_wp2_with fail
     refine (long_any _ X (by omega) false HL.out).mono ?_
     rintro e w1 ⟨rfl,rfl⟩
     go_wp2_with fail
     go_round
     case rel=>exact ⟨X+1,D+365,by omega,by omega,by go_num,by go_num,by have:=HYn.out;have:=HD.out;have:=HXY.out;have:=hup.out;omega,Lib.hid (by have:=HYn.out;have:=HD.out;omega)⟩
     case measure=>simp [intOf];omega
    ·have HL:=Lib.hid hl
     have HYn:=Lib.hid (year_more X (by omega) hl)
     clear hl
     go_wp2_with fail
     refine (long_any _ X (by omega) true HL.out).mono ?_
     rintro e w1 ⟨rfl,rfl⟩
     go_wp2_with fail
     go_round
     case rel=>exact ⟨X+1,D+366,by omega,by omega,by go_num,by go_num,by have:=HYn.out;have:=HD.out;have:=HXY.out;have:=hup.out;omega,Lib.hid (by have:=HYn.out;have:=HD.out;omega)⟩
     case measure=>simp [intOf];omega
   ·obtain rfl:X=Y:=by omega
    have hq:decide ((X:Int)<(X:Int))=false:=decide_eq_false (by omega)
    go_wp2_with fail
    go_loopw [8,10] (fun d x wr=>∃ M D:Nat,1≤M∧M≤F∧x = .int .i64 (M:Int)∧d = .int .i64 (D:Int)∧D≤4000000∧Hid (D+712163=num X M 1)∧Mg w wr #[.int .u8 23,.slice (some ⟨bl,off,none⟩) 13 c,.slice K 0 kc] B bl off c b #[.int .i64 (F:Int),.int .i64 f1,.int .i64 f2,.int .i64 f3,.int .i64 f4]) (fun _ x _=>(F - intOf x).toNat)
    case atStart=>exact ⟨1,D,by omega,hF1,rfl,rfl,hD,HD,hm⟩
    case round =>
     clear hm hcb hcf hff
     obtain ⟨M,D,hM1,hM2,rfl,rfl,hD,HD,hm⟩:=hrel
     obtain ⟨W,hW⟩:∃ W,W=wr:=⟨_,rfl⟩
     subst hW
     have hcf:=hm.f.cell
     by_cases hMF:M<F
     ·have hdim:=dim_le X M
      obtain ⟨dm,Hdm⟩:∃ dm,Hid (dim X M=dm):=⟨_,rfl⟩
      rw [Hdm.out] at hdim
      have HNX:Hid (num X (M+1) 1=num X M 1+dm):=Lib.hid (by rw [←Hdm.out];exact num_next X M (by omega) hM1 (by omega))
      have hin:Hid (num X (M+1) 1<num (X+1) 1 1):=Lib.hid (num_in (y:=X) (m:=M+1) (d:=1) ⟨by omega,by omega,by omega,by omega,by have:=dim_le X (M+1);omega⟩).2
      go_wp2_with fail
      refine (days'_any _ X M (by omega) hM1 (by omega) dm Hdm.out).mono ?_
      rintro e w1 ⟨rfl,hb1⟩
      have hm1:=hm.under hB hb1
      clear hm hb1 hcf
      go_wp2_with fail
      go_roundw
      case rel=>exact ⟨M+1,D+dm,by omega,by omega,by go_num,by go_num,by have:=HNX.out;have:=HD.out;have:=hin.out;have:=hup.out;omega,Lib.hid (by have:=HNX.out;have:=HD.out;omega),hm1⟩
      case measure=>simp [intOf];omega
     ·obtain rfl:M=F:=by omega
      have hq:decide ((M:Int)<(M:Int))=false:=decide_eq_false (by omega)
      obtain ⟨T,HT⟩:∃ T:Int,Hid (((D:Int)+f1 - 1)*86400+(f2*3600+f3*60+f4) - 631152000=T):=⟨_,rfl⟩
      have HS:Hid (∀ t,IsTime 23 b 0 t→T=t):=Lib.hid (fun t h=>by
       obtain ⟨x,hx,_,e1,e2,e3,e4,e5,e6⟩:=H6.out.is t h
       have hs:=sayR_is hx
       unfold sayR at hs
       have e7:X=x.y:=by omega
       have e8:M=x.m:=by omega
       have:=HD.out
       rw [e7,e8] at this
       have h9:=HT.out
       rw [e3,e4,e5,e6] at h9
       omega)
      go_wp2_with fail
      rw [HT.out]
      by_cases hrange:-631152000≤T∧T≤253402300799
      ·obtain ⟨hT0,hT1⟩:=hrange
       obtain ⟨x,hx⟩:=date_is T hT0 hT1
       obtain ⟨tg,Htg⟩:∃ tg,Hid (tagOf x=tg):=⟨_,rfl⟩
       obtain ⟨n,HN⟩:∃ n,Hid ((bodyOf x).length=n):=⟨_,rfl⟩
       have HX:=Lib.hid hx
       clear hx
       refine (time'_yes _ T hT0 hT1 x HX.out tg n Htg.out HN.out).mono ?_
       rintro e w2 ⟨A2,c2,rfl,hr2,hb2⟩
       have hm2:=hm.under hB hb2
       have hms:=hm2.box.alloc (.cells #[.int .u8 (tg:Int),.slice A2 n c2,.slice none 0 0] 32)
       have hrd:=hm2.rd.alloc (by have:=hm2.bel.size;omega) (.cells #[.int .u8 (tg:Int),.slice A2 n c2,.slice none 0 0] 32)
       have hr2':=hr2.alloc (Nat.le_refl _) (.cells #[.int .u8 (tg:Int),.slice A2 n c2,.slice none 0 0] 32)
       have hbl2:=hm2.bel.alloc hm2.bel.size (.cells #[.int .u8 (tg:Int),.slice A2 n c2,.slice none 0 0] 32)
       have hcv1:=conv_str hrd HB.out ho
       have hcv2:=conv_str hr2' HN.out (body_oct x)
       have hc0:w2.cell? ⟨w.heap.size,0,none⟩=some (.int .u8 23):=hm2.box.cell 0
       have hc1:w2.cell? ⟨w.heap.size,1,none⟩=some (.slice (some ⟨bl,off,none⟩) 13 c):=hm2.box.cell 1
       have hne:w.heap.size<w2.heap.size:=Holds.lt hm2.box
       have hcs:=hms.cell
       clear hm hm2 hms hrd hr2 hr2' hb2
       by_cases hI:23=tg
       ·by_cases hI2:b=bodyOf x
        ·have HI:Hid (IsTime 23 b 0 T):=Lib.hid ⟨x,hT0,hT1,HX.out,hI.trans Htg.out.symm,hI2,rfl⟩
         have hq0:((tg:Int) != 23)=false:=by rw [bne_eq_false_iff_eq];omega
         clear hI
         have hq1:((str (bodyOf x)).toList == (str b).toList)=true:=by rw [hI2];exact beq_self_eq_true _
         clear hI2
         generalize str (bodyOf x)=s1 at *
         generalize str b=s2 at *
         go_wp2_with fail
         go_ret2
         exact get_some HI.out hbl2
        ·have HI:Hid (∀ t,¬ IsTime 23 b 0 t):=Lib.hid (fun t h=>by
          obtain rfl:=HS.out t h
          obtain ⟨z,_,_,hz,a1,a2,a3⟩:=h
          obtain rfl:=IsDate.same HX.out hz
          exact hI2 a2)
         have hq0:((tg:Int) != 23)=false:=by rw [bne_eq_false_iff_eq];omega
         clear hI
         have hq1:((str (bodyOf x)).toList == (str b).toList)=false:=str_ne (body_oct x) ho (Ne.symm hI2)
         clear hI2
         generalize str (bodyOf x)=s1 at *
         generalize str b=s2 at *
         go_wp2_with fail
         go_ret2
         exact get_noneWhen12 HI.out hbl2
       ·have HI:Hid (∀ t,¬ IsTime 23 b 0 t):=Lib.hid (fun t h=>by
         obtain rfl:=HS.out t h
         obtain ⟨z,_,_,hz,a1,a2,a3⟩:=h
         obtain rfl:=IsDate.same HX.out hz
         exact hI (a1.trans Htg.out))
        have hq1:((tg:Int) != 23)=true:=by rw [bne_iff_ne];omega
        clear hI
        generalize str (bodyOf x)=s1 at *
        generalize str b=s2 at *
        go_wp2_with fail
        go_ret2
        exact get_noneWhen12 HI.out hbl2
      ·have HI:Hid (∀ t,¬ IsTime 23 b 0 t):=Lib.hid (fun t h=>by
        obtain rfl:=HS.out t h
        obtain ⟨z,h0,h1,_⟩:=h
        exact hrange ⟨h0,h1⟩)
       have hout:T < -631152000∨253402300799<T:=by omega
       clear hrange
       refine (time'_no _ T hout).mono ?_
       rintro e w2 ⟨rfl,hb2⟩
       have hm2:=hm.under hB hb2
       have hbl2:=hm2.bel.alloc hm2.bel.size (.cells #[.int .u8 0,.slice none 0 0,.slice none 0 0] 32)
       have hc0:w2.cell? ⟨w.heap.size,0,none⟩=some (.int .u8 23):=hm2.box.cell 0
       have hne:w.heap.size<w2.heap.size:=Holds.lt hm2.box
       have hcs:=(hm2.box.alloc (.cells #[.int .u8 0,.slice none 0 0,.slice none 0 0] 32)).cell
       clear hm hm2 hb2
       go_wp2_with fail
       go_ret2
       exact get_noneWhen12 HI.out hbl2
end Go.Proofs.YtcibjcgipfpniaaGreatDoor
