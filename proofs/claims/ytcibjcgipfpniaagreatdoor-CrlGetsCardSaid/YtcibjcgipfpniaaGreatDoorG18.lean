/- Words and laws for the statement, part 18. -/
import Derived.Test.YtcibjcgipfpniaaGreatDoorG13
import Derived.Test.YtcibjcgipfpniaaGreatDoorG17
namespace Go.Proofs.YtcibjcgipfpniaaGreatDoor
open Go.RowKit
set_option linter.unusedVariables false
attribute [local go_sem ↓] Go.wp_at_zero Go.wp_at_succ

set_option maxRecDepth 100000 in
set_option maxHeartbeats 8000000 in
theorem get'_long (w:World) (B:Nat) (bl off c:Nat) (b:List Nat) (hn:b.length=15) (hr:Rd .u8 w B (some ⟨bl,off,none⟩) c b) (hB:B≤w.heap.size) (ho:Oct8 b) (K:Option Addr) (kc:Nat) :
  Calls Tryz.prog 100 #[.agg #[.int .u8 24,.slice (some ⟨bl,off,none⟩) 15 c,.slice K 0 kc]] w (GetPost w 24 b 0):=by
 have hlc:15≤c:=by have:=hr.1;omega
 have hc63:c≤9223372036854775807:=hr.2.1
 obtain ⟨v,s0,l0,u0,u0'⟩:=says_of ((b.drop 0).take 4)
 have p0:((b.drop 0).take 4).length=4:=by simp;omega
 have hl0:-1≤v:=l0
 have hu0:v≤9999:=u0 (by omega)
 have S0:=Lib.hid s0
 have P0:=Lib.hid p0
 clear s0 p0 l0 u0 u0'
 obtain ⟨f0,s1,l1,u1,u1'⟩:=says_of ((b.drop 4).take 2)
 have p1:((b.drop 4).take 2).length=2:=by simp;omega
 have hl1:-1≤f0:=l1
 have hu1:f0≤99:=u1' (by omega)
 have S1:=Lib.hid s1
 have P1:=Lib.hid p1
 clear s1 p1 l1 u1 u1'
 obtain ⟨f1,s2,l2,u2,u2'⟩:=says_of ((b.drop 6).take 2)
 have p2:((b.drop 6).take 2).length=2:=by simp;omega
 have hl2:-1≤f1:=l2
 have hu2:f1≤99:=u2' (by omega)
 have S2:=Lib.hid s2
 have P2:=Lib.hid p2
 clear s2 p2 l2 u2 u2'
 obtain ⟨f2,s3,l3,u3,u3'⟩:=says_of ((b.drop 8).take 2)
 have p3:((b.drop 8).take 2).length=2:=by simp;omega
 have hl3:-1≤f2:=l3
 have hu3:f2≤99:=u3' (by omega)
 have S3:=Lib.hid s3
 have P3:=Lib.hid p3
 clear s3 p3 l3 u3 u3'
 obtain ⟨f3,s4,l4,u4,u4'⟩:=says_of ((b.drop 10).take 2)
 have p4:((b.drop 10).take 2).length=2:=by simp;omega
 have hl4:-1≤f3:=l4
 have hu4:f3≤99:=u4' (by omega)
 have S4:=Lib.hid s4
 have P4:=Lib.hid p4
 clear s4 p4 l4 u4 u4'
 obtain ⟨f4,s5,l5,u5,u5'⟩:=says_of ((b.drop 12).take 2)
 have p5:((b.drop 12).take 2).length=2:=by simp;omega
 have hl5:-1≤f4:=l5
 have hu5:f4≤99:=u5' (by omega)
 have S5:=Lib.hid s5
 have P5:=Lib.hid p5
 clear s5 p5 l5 u5 u5'
 have HR6:=Lib.hid (read_long (nk:=0) S0.out S1.out S2.out S3.out S4.out S5.out)
 have hcj4:¬ c=4:=by omega
 have hcj6:¬ c=6:=by omega
 have hcj8:¬ c=8:=by omega
 have hcj10:¬ c=10:=by omega
 have hcj12:¬ c=12:=by omega
 have hbox:=Holds.fresh w 32 #[.int .u8 24,.slice (some ⟨bl,off,none⟩) 15 c,.slice K 0 kc]
 have hrb:=hr.alloc hB (.cells #[.int .u8 24,.slice (some ⟨bl,off,none⟩) 15 c,.slice K 0 kc] 32)
 have hbel:Below w.heap.size w (w.alloc (.cells #[.int .u8 24,.slice (some ⟨bl,off,none⟩) 15 c,.slice K 0 kc] 32)):=(Below.refl _ _).alloc (Nat.le_refl _) _
 have HRB:=Lib.hid hrb
 have HBX:=Lib.hid hbox
 have HBL:=Lib.hid hbel
 have HB:=Lib.hid hn
 clear hr hrb hbox hbel hn
 go_enter Tryz.func100,Tryz.ntmps100
 go_wp2_with fail
 have hp:=Lib.hid (HRB.out.part (j:=0) (m:=4) (by have:=HB.out;omega))
 refine (number_any _ B (some ⟨bl,off,none⟩) c 4 _ P0.out hp.out (oct_part ho _ _) (by omega) v S0.out).mono ?_
 rintro e W ⟨rfl,q,rfl⟩
 have hbx:=HBX.out.drewN q
 have hrx:=HRB.out.drewN q
 have hbl:=below_drewN HBL.out q
 have hsz:((w.alloc (.cells #[.int .u8 24,.slice (some ⟨bl,off,none⟩) 15 c,.slice K 0 kc] 32)).drewN q).heap.size=w.heap.size+1:=by simp
 generalize (w.alloc (.cells #[.int .u8 24,.slice (some ⟨bl,off,none⟩) 15 c,.slice K 0 kc] 32)).drewN q=W at *
 have HSZ:=Lib.hid hsz
 clear hp HRB HBX HBL
 have hm:Mg w (W.alloc (.cells #[.int .i64 0,.int .i64 0,.int .i64 0,.int .i64 0,.int .i64 0] 136)) #[.int .u8 24,.slice (some ⟨bl,off,none⟩) 15 c,.slice K 0 kc] B bl off c b #[.int .i64 0,.int .i64 0,.int .i64 0,.int .i64 0,.int .i64 0]:=⟨hbx.alloc _,by rw [←HSZ.out];exact Holds.fresh W _ _,hrx.alloc (by omega) _,hbl.alloc hbl.size _⟩
 have hcb:=hbx.cell
 have hcf:=hm.f.cell
 have hff:=hm.f.open_
 clear hbx hrx hbl hsz
 obtain ⟨y,Hy⟩:∃ y:Int,Hid (y=v):=⟨_,rfl⟩
 have hy2:y≤9999:=by have:=Hy.out;omega
 have hy0:-1≤y:=by have:=Hy.out;omega
 have H6:Hid (Read6 24 b 0 y f0 f1 f2 f3 f4):=Lib.hid (by have:=HR6.out;rw [←Hy.out] at this;exact this)
 go_wp2_with fail
 rw [←Hy.out,HSZ.out]
 clear hcb hcf hff
 generalize W.alloc (.cells #[.int .i64 0,.int .i64 0,.int .i64 0,.int .i64 0,.int .i64 0] 136)=V at *
 have hcb:=hm.box.cell
 have hcf:=hm.f.cell
 have hff:=hm.f.open_
 refine wp_loop_rounds 6 ?_
 rw [rounds_succ]
 go_wp2_with fail
 have hp0:=Lib.hid (hm.rd.part (j:=4) (m:=2) (by have:=HB.out;omega))
 refine (number_any _ B (some ⟨bl,off+4,none⟩) (c - 4) 2 _ P1.out hp0.out (oct_part ho _ _) (by omega) f0 S1.out).mono ?_
 rintro e W0 ⟨rfl,q0,rfl⟩
 have hd:=hm.drewN q0
 have hm2:Mg w _ #[.int .u8 24,.slice (some ⟨bl,off,none⟩) 15 c,.slice K 0 kc] B bl off c b #[.int .i64 f0,.int .i64 0,.int .i64 0,.int .i64 0,.int .i64 0]:=hd.set hB 0 (.int .i64 f0)
 clear hm hp0 hcf hff hcb
 have hcf:=hd.f.cell
 have hff:=hd.f.open_
 clear hd
 have hcb:=hm2.box.cell
 go_wp2_with fail
 have hm:=hm2
 clear hm2
 clear hcf hff hcb
 rw [rounds_succ]
 have hcb:=hm.box.cell
 have hcf:=hm.f.cell
 have hff:=hm.f.open_
 go_wp2_with fail
 have hp1:=Lib.hid (hm.rd.part (j:=6) (m:=2) (by have:=HB.out;omega))
 refine (number_any _ B (some ⟨bl,off+6,none⟩) (c - 6) 2 _ P2.out hp1.out (oct_part ho _ _) (by omega) f1 S2.out).mono ?_
 rintro e W1 ⟨rfl,q1,rfl⟩
 have hd:=hm.drewN q1
 have hm2:Mg w _ #[.int .u8 24,.slice (some ⟨bl,off,none⟩) 15 c,.slice K 0 kc] B bl off c b #[.int .i64 f0,.int .i64 f1,.int .i64 0,.int .i64 0,.int .i64 0]:=hd.set hB 1 (.int .i64 f1)
 clear hm hp1 hcf hff hcb
 have hcf:=hd.f.cell
 have hff:=hd.f.open_
 clear hd
 have hcb:=hm2.box.cell
 go_wp2_with fail
 have hm:=hm2
 clear hm2
 clear hcf hff hcb
 rw [rounds_succ]
 have hcb:=hm.box.cell
 have hcf:=hm.f.cell
 have hff:=hm.f.open_
 go_wp2_with fail
 have hp2:=Lib.hid (hm.rd.part (j:=8) (m:=2) (by have:=HB.out;omega))
 refine (number_any _ B (some ⟨bl,off+8,none⟩) (c - 8) 2 _ P3.out hp2.out (oct_part ho _ _) (by omega) f2 S3.out).mono ?_
 rintro e W2 ⟨rfl,q2,rfl⟩
 have hd:=hm.drewN q2
 have hm2:Mg w _ #[.int .u8 24,.slice (some ⟨bl,off,none⟩) 15 c,.slice K 0 kc] B bl off c b #[.int .i64 f0,.int .i64 f1,.int .i64 f2,.int .i64 0,.int .i64 0]:=hd.set hB 2 (.int .i64 f2)
 clear hm hp2 hcf hff hcb
 have hcf:=hd.f.cell
 have hff:=hd.f.open_
 clear hd
 have hcb:=hm2.box.cell
 go_wp2_with fail
 have hm:=hm2
 clear hm2
 clear hcf hff hcb
 rw [rounds_succ]
 have hcb:=hm.box.cell
 have hcf:=hm.f.cell
 have hff:=hm.f.open_
 go_wp2_with fail
 have hp3:=Lib.hid (hm.rd.part (j:=10) (m:=2) (by have:=HB.out;omega))
 refine (number_any _ B (some ⟨bl,off+10,none⟩) (c - 10) 2 _ P4.out hp3.out (oct_part ho _ _) (by omega) f3 S4.out).mono ?_
 rintro e W3 ⟨rfl,q3,rfl⟩
 have hd:=hm.drewN q3
 have hm2:Mg w _ #[.int .u8 24,.slice (some ⟨bl,off,none⟩) 15 c,.slice K 0 kc] B bl off c b #[.int .i64 f0,.int .i64 f1,.int .i64 f2,.int .i64 f3,.int .i64 0]:=hd.set hB 3 (.int .i64 f3)
 clear hm hp3 hcf hff hcb
 have hcf:=hd.f.cell
 have hff:=hd.f.open_
 clear hd
 have hcb:=hm2.box.cell
 go_wp2_with fail
 have hm:=hm2
 clear hm2
 clear hcf hff hcb
 rw [rounds_succ]
 have hcb:=hm.box.cell
 have hcf:=hm.f.cell
 have hff:=hm.f.open_
 go_wp2_with fail
 have hp4:=Lib.hid (hm.rd.part (j:=12) (m:=2) (by have:=HB.out;omega))
 refine (number_any _ B (some ⟨bl,off+12,none⟩) (c - 12) 2 _ P5.out hp4.out (oct_part ho _ _) (by omega) f4 S5.out).mono ?_
 rintro e W4 ⟨rfl,q4,rfl⟩
 have hd:=hm.drewN q4
 have hm2:Mg w _ #[.int .u8 24,.slice (some ⟨bl,off,none⟩) 15 c,.slice K 0 kc] B bl off c b #[.int .i64 f0,.int .i64 f1,.int .i64 f2,.int .i64 f3,.int .i64 f4]:=hd.set hB 4 (.int .i64 f4)
 clear hm hp4 hcf hff hcb
 have hcf:=hd.f.cell
 have hff:=hd.f.open_
 clear hd
 have hcb:=hm2.box.cell
 go_wp2_with fail
 have hm:=hm2
 clear hm2
 clear hcf hff hcb
 rw [rounds_succ]
 have hcb:=hm.box.cell
 have hcf:=hm.f.cell
 have hff:=hm.f.open_
 generalize World.setCell _ _ _=V5 at hm hcb hcf hff ⊢
 by_cases hy1:1950≤y
 case neg =>
  have HN:Hid (∀ t,¬ IsTime 24 b 0 t):=Lib.hid (fun t h=>by
   obtain ⟨x,hx,hx1,e,_⟩:=H6.out.is t h
   omega)
  have hq:decide (y<1950)=true:=decide_eq_true (by omega)
  go_wp2_with fail
  go_ret2
  exact get_noneWhen12 HN.out hm.bel
 case pos =>
 have hylow:decide (y<1950)=false:=decide_eq_false (by omega)
 by_cases hf0:1≤f0
 case neg =>
  have HN:Hid (∀ t,¬ IsTime 24 b 0 t):=Lib.hid (fun t h=>by
   obtain ⟨x,hx,_,_,e,_⟩:=H6.out.is t h
   have:=hx.valid.m1
   omega)
  have hq:decide (f0<1)=true:=decide_eq_true (by omega)
  go_wp2_with fail
  go_ret2
  exact get_noneWhen12 HN.out hm.bel
 case pos =>
 by_cases hf12:f0≤12
 case neg =>
  have HN:Hid (∀ t,¬ IsTime 24 b 0 t):=Lib.hid (fun t h=>by
   obtain ⟨x,hx,_,_,e,_⟩:=H6.out.is t h
   have:=hx.valid.m12
   omega)
  have hq:decide (f0<1)=false:=decide_eq_false (by omega)
  have hq2:decide (12<f0)=true:=decide_eq_true (by omega)
  go_wp2_with fail
  go_ret2
  exact get_noneWhen12 HN.out hm.bel
 case pos =>
 have hq:decide (f0<1)=false:=decide_eq_false (by omega)
 have hq2:decide (12<f0)=false:=decide_eq_false (by omega)
 go_wp2_with fail
 clear hq hq2 hylow
 obtain ⟨Y,hY⟩:∃ Y:Nat,y=(Y:Int):=⟨y.toNat,by omega⟩
 subst hY
 obtain ⟨F,hF⟩:∃ F:Nat,f0=(F:Int):=⟨f0.toNat,by omega⟩
 subst hF
 have hY1:1950≤Y:=by omega
 have hY2:Y≤9999:=by omega
 have hF1:1≤F:=by omega
 have hF2:F≤12:=by omega
 have HN0:Hid (num 1950 1 1=712163):=Lib.hid (by decide +kernel)
 go_loop [8,9] (fun d x=>∃ X D:Nat,1950≤X∧X≤Y∧x = .int .i64 (X:Int)∧d = .int .i64 (D:Int)∧D≤4000000∧Hid (D+712163=num X 1 1)) (fun _ x=>(Y - intOf x).toNat)
 case atStart=>exact ⟨1950,0,by omega,hY1,rfl,rfl,by omega,Lib.hid (by rw [HN0.out])⟩
 case round =>
  obtain ⟨X,D,hX1,hX2,rfl,rfl,hD,HD⟩:=hrel
  have hup:Hid (num (Y+1) 1 1≤3652365):=Lib.hid (by
   have e2:num 10000 1 1=3652365:=by decide +kernel
   have:=num_mono_year (y:=Y+1) (y':=10000) (by omega) (by omega)
   omega)
  by_cases hlt:X<Y
  ·have hXY:=num_mono_year (y:=X+1) (y':=Y+1) (by omega) (by omega)
   have HXY:=Lib.hid hXY
   clear hXY
   cases hl:leap X
   ·have HL:=Lib.hid hl
    have HYn:=Lib.hid (year_less X (by omega) hl)
    clear hl
    go_wp2_with fail
    refine (long_any _ X (by omega) false HL.out).mono ?_
    rintro e w1 ⟨rfl,rfl⟩
    go_wp2_with fail
    go_round
    case rel=>exact ⟨X+1,D+365,by omega,by omega,by go_num,by go_num,by have:=HYn.out;have:=HD.out;have:=HXY.out;have:=hup.out;omega,Lib.hid (by have:=HYn.out;have:=HD.out;omega)⟩
    case measure=>simp [intOf];omega
   ·have HL:=Lib.hid hl
    have HYn:=Lib.hid (year_more X (by omega) hl)
    clear hl
    go_wp2_with fail
    refine (long_any _ X (by omega) true HL.out).mono ?_
    rintro e w1 ⟨rfl,rfl⟩
    go_wp2_with fail
    go_round
    case rel=>exact ⟨X+1,D+366,by omega,by omega,by go_num,by go_num,by have:=HYn.out;have:=HD.out;have:=HXY.out;have:=hup.out;omega,Lib.hid (by have:=HYn.out;have:=HD.out;omega)⟩
    case measure=>simp [intOf];omega
  ·obtain rfl:X=Y:=by omega
   have hq:decide ((X:Int)<(X:Int))=false:=decide_eq_false (by omega)
   go_wp2_with fail
   go_loopw [8,10] (fun d x wr=>∃ M D:Nat,1≤M∧M≤F∧x = .int .i64 (M:Int)∧d = .int .i64 (D:Int)∧D≤4000000∧Hid (D+712163=num X M 1)∧Mg w wr #[.int .u8 24,.slice (some ⟨bl,off,none⟩) 15 c,.slice K 0 kc] B bl off c b #[.int .i64 (F:Int),.int .i64 f1,.int .i64 f2,.int .i64 f3,.int .i64 f4]) (fun _ x _=>(F - intOf x).toNat)
   case atStart=>exact ⟨1,D,by omega,hF1,rfl,rfl,hD,HD,hm⟩
   case round =>
    clear hm hcb hcf hff
    obtain ⟨M,D,hM1,hM2,rfl,rfl,hD,HD,hm⟩:=hrel
    obtain ⟨W,hW⟩:∃ W,W=wr:=⟨_,rfl⟩
    subst hW
    have hcf:=hm.f.cell
    by_cases hMF:M<F
    ·have hdim:=dim_le X M
     obtain ⟨dm,Hdm⟩:∃ dm,Hid (dim X M=dm):=⟨_,rfl⟩
     rw [Hdm.out] at hdim
     have HNX:Hid (num X (M+1) 1=num X M 1+dm):=Lib.hid (by rw [←Hdm.out];exact num_next X M (by omega) hM1 (by omega))
     have hin:Hid (num X (M+1) 1<num (X+1) 1 1):=Lib.hid (num_in (y:=X) (m:=M+1) (d:=1) ⟨by omega,by omega,by omega,by omega,by have:=dim_le X (M+1);omega⟩).2
     go_wp2_with fail
     refine (days'_any _ X M (by omega) hM1 (by omega) dm Hdm.out).mono ?_
     rintro e w1 ⟨rfl,hb1⟩
     have hm1:=hm.under hB hb1
     clear hm hb1 hcf
     go_wp2_with fail
     go_roundw
     case rel=>exact ⟨M+1,D+dm,by omega,by omega,by go_num,by go_num,by have:=HNX.out;have:=HD.out;have:=hin.out;have:=hup.out;omega,Lib.hid (by have:=HNX.out;have:=HD.out;omega),hm1⟩
     case measure=>simp [intOf];omega
    ·obtain rfl:M=F:=by omega
     have hq:decide ((M:Int)<(M:Int))=false:=decide_eq_false (by omega)
     obtain ⟨T,HT⟩:∃ T:Int,Hid (((D:Int)+f1 - 1)*86400+(f2*3600+f3*60+f4) - 631152000=T):=⟨_,rfl⟩
     have HS:Hid (∀ t,IsTime 24 b 0 t→T=t):=Lib.hid (fun t h=>by
      obtain ⟨x,hx,_,e1,e2,e3,e4,e5,e6⟩:=H6.out.is t h
      have hs:=sayR_is hx
      unfold sayR at hs
      have e7:X=x.y:=by omega
      have e8:M=x.m:=by omega
      have:=HD.out
      rw [e7,e8] at this
      have h9:=HT.out
      rw [e3,e4,e5,e6] at h9
      omega)
     go_wp2_with fail
     rw [HT.out]
     by_cases hrange:-631152000≤T∧T≤253402300799
     ·obtain ⟨hT0,hT1⟩:=hrange
      obtain ⟨x,hx⟩:=date_is T hT0 hT1
      obtain ⟨tg,Htg⟩:∃ tg,Hid (tagOf x=tg):=⟨_,rfl⟩
      obtain ⟨n,HN⟩:∃ n,Hid ((bodyOf x).length=n):=⟨_,rfl⟩
      have HX:=Lib.hid hx
      clear hx
      refine (time'_yes _ T hT0 hT1 x HX.out tg n Htg.out HN.out).mono ?_
      rintro e w2 ⟨A2,c2,rfl,hr2,hb2⟩
      have hm2:=hm.under hB hb2
      have hms:=hm2.box.alloc (.cells #[.int .u8 (tg:Int),.slice A2 n c2,.slice none 0 0] 32)
      have hrd:=hm2.rd.alloc (by have:=hm2.bel.size;omega) (.cells #[.int .u8 (tg:Int),.slice A2 n c2,.slice none 0 0] 32)
      have hr2':=hr2.alloc (Nat.le_refl _) (.cells #[.int .u8 (tg:Int),.slice A2 n c2,.slice none 0 0] 32)
      have hbl2:=hm2.bel.alloc hm2.bel.size (.cells #[.int .u8 (tg:Int),.slice A2 n c2,.slice none 0 0] 32)
      have hcv1:=conv_str hrd HB.out ho
      have hcv2:=conv_str hr2' HN.out (body_oct x)
      have hc0:w2.cell? ⟨w.heap.size,0,none⟩=some (.int .u8 24):=hm2.box.cell 0
      have hc1:w2.cell? ⟨w.heap.size,1,none⟩=some (.slice (some ⟨bl,off,none⟩) 15 c):=hm2.box.cell 1
      have hne:w.heap.size<w2.heap.size:=Holds.lt hm2.box
      have hcs:=hms.cell
      clear hm hm2 hms hrd hr2 hr2' hb2
      by_cases hI:24=tg
      ·by_cases hI2:b=bodyOf x
       ·have HI:Hid (IsTime 24 b 0 T):=Lib.hid ⟨x,hT0,hT1,HX.out,hI.trans Htg.out.symm,hI2,rfl⟩
        have hq0:((tg:Int) != 24)=false:=by rw [bne_eq_false_iff_eq];omega
        clear hI
        have hq1:((str (bodyOf x)).toList == (str b).toList)=true:=by rw [hI2];exact beq_self_eq_true _
        clear hI2
        generalize str (bodyOf x)=s1 at *
        generalize str b=s2 at *
        go_wp2_with fail
        go_ret2
        exact get_some HI.out hbl2
       ·have HI:Hid (∀ t,¬ IsTime 24 b 0 t):=Lib.hid (fun t h=>by
         obtain rfl:=HS.out t h
         obtain ⟨z,_,_,hz,a1,a2,a3⟩:=h
         obtain rfl:=IsDate.same HX.out hz
         exact hI2 a2)
        have hq0:((tg:Int) != 24)=false:=by rw [bne_eq_false_iff_eq];omega
        clear hI
        have hq1:((str (bodyOf x)).toList == (str b).toList)=false:=str_ne (body_oct x) ho (Ne.symm hI2)
        clear hI2
        generalize str (bodyOf x)=s1 at *
        generalize str b=s2 at *
        go_wp2_with fail
        go_ret2
        exact get_noneWhen12 HI.out hbl2
      ·have HI:Hid (∀ t,¬ IsTime 24 b 0 t):=Lib.hid (fun t h=>by
        obtain rfl:=HS.out t h
        obtain ⟨z,_,_,hz,a1,a2,a3⟩:=h
        obtain rfl:=IsDate.same HX.out hz
        exact hI (a1.trans Htg.out))
       have hq1:((tg:Int) != 24)=true:=by rw [bne_iff_ne];omega
       clear hI
       generalize str (bodyOf x)=s1 at *
       generalize str b=s2 at *
       go_wp2_with fail
       go_ret2
       exact get_noneWhen12 HI.out hbl2
     ·have HI:Hid (∀ t,¬ IsTime 24 b 0 t):=Lib.hid (fun t h=>by
       obtain rfl:=HS.out t h
       obtain ⟨z,h0,h1,_⟩:=h
       exact hrange ⟨h0,h1⟩)
      have hout:T < -631152000∨253402300799<T:=by omega
      clear hrange
      refine (time'_no _ T hout).mono ?_
      rintro e w2 ⟨rfl,hb2⟩
      have hm2:=hm.under hB hb2
      have hbl2:=hm2.bel.alloc hm2.bel.size (.cells #[.int .u8 0,.slice none 0 0,.slice none 0 0] 32)
      have hc0:w2.cell? ⟨w.heap.size,0,none⟩=some (.int .u8 24):=hm2.box.cell 0
      have hne:w.heap.size<w2.heap.size:=Holds.lt hm2.box
      have hcs:=(hm2.box.alloc (.cells #[.int .u8 0,.slice none 0 0,.slice none 0 0] 32)).cell
      clear hm hm2 hb2
      go_wp2_with fail
      go_ret2
      exact get_noneWhen12 HI.out hbl2
end Go.Proofs.YtcibjcgipfpniaaGreatDoor
namespace Go.Proofs.YtcibjcgipfpniaaGreatDoor
open Go.RowKit
set_option linter.unusedVariables false

theorem not_time {tag:Nat} {b:List Nat} {nk:Nat} (h:¬ (nk=0∧((tag=23∧b.length=13)∨(tag=24∧b.length=15)))) (t:Int):¬ IsTime tag b nk t:=fun ht=>by
 obtain ⟨_,h0,⟨h1,h2,_⟩ | ⟨h1,h2,_⟩⟩:=time_says ht
 ·exact h ⟨h0,.inl ⟨h1,h2⟩⟩
 ·exact h ⟨h0,.inr ⟨h1,h2⟩⟩

set_option maxRecDepth 100000 in
set_option maxHeartbeats 2000000 in
theorem get'_any (w:World) (tag:Nat) (B:Nat) (A:Option Addr) (c n:Nat) (b:List Nat) (hn:b.length=n) (hr:Rd .u8 w B A c b) (hB:B≤w.heap.size) (ho:Oct8 b) (ht:tag<256) (K:Option Addr) (nk kc:Nat) (hnk:nk≤1000000) (hn6:n≤1000000) :
  Calls Tryz.prog 100 #[.agg #[.int .u8 tag,.slice A n c,.slice K nk kc]] w (GetPost w tag b nk):=by
 by_cases hy:nk=0∧((tag=23∧b.length=13)∨(tag=24∧b.length=15))
 ·obtain ⟨rfl,⟨rfl,h13⟩ | ⟨rfl,h15⟩⟩:=hy
  ·obtain ⟨bl,off,rfl,_,_⟩:=hr.2.2 (by omega)
   obtain rfl:n=13:=by omega
   exact get'_short w B bl off c b h13 hr hB ho K kc
  ·obtain ⟨bl,off,rfl,_,_⟩:=hr.2.2 (by omega)
   obtain rfl:n=15:=by omega
   exact get'_long w B bl off c b h15 hr hB ho K kc
 ·have HNT:=Lib.hid (not_time hy)
  have hbel:Below w.heap.size w (w.alloc (.cells #[.int .u8 tag,.slice A n c,.slice K nk kc] 32)):=(Below.refl _ _).alloc (Nat.le_refl _) _
  by_cases h23:tag=23
  ·subst h23
   by_cases hk:0<nk
   ·have hq:decide ((0:Int)<(nk:Int))=true:=decide_eq_true (by omega)
    clear hy hn
    go_enter Tryz.func100,Tryz.ntmps100
    go_wp2_with fail
    go_ret2
    exact get_noneWhen12 HNT.out hbel
   ·obtain rfl:nk=0:=by omega
    have hq:((n:Int) != 13)=true:=by rw [bne_iff_ne];intro e;exact hy ⟨rfl,.inl ⟨rfl,by omega⟩⟩
    clear hy hn
    go_enter Tryz.func100,Tryz.ntmps100
    go_wp2_with fail
    go_ret2
    exact get_noneWhen12 HNT.out hbel
  ·by_cases h24:tag=24
   ·subst h24
    by_cases hk:0<nk
    ·have hq:decide ((0:Int)<(nk:Int))=true:=decide_eq_true (by omega)
     clear hy hn h23
     go_enter Tryz.func100,Tryz.ntmps100
     go_wp2_with fail
     go_ret2
     exact get_noneWhen12 HNT.out hbel
    ·obtain rfl:nk=0:=by omega
     have hq:((n:Int) != 15)=true:=by rw [bne_iff_ne];intro e;exact hy ⟨rfl,.inr ⟨rfl,by omega⟩⟩
     clear hy hn h23
     go_enter Tryz.func100,Tryz.ntmps100
     go_wp2_with fail
     go_ret2
     exact get_noneWhen12 HNT.out hbel
   ·have q1:((tag:Int) == 24)=false:=by rw [beq_eq_false_iff_ne];omega
    have q2:((tag:Int) != 23)=true:=by rw [bne_iff_ne];omega
    have q3:((tag:Int) != 24)=true:=by rw [bne_iff_ne];omega
    clear hy hn h23 h24
    go_enter Tryz.func100,Tryz.ntmps100
    go_wp2_with fail
    go_ret2
    exact get_noneWhen12 HNT.out hbel
theorem GetPost.one {w w1 w' w1':World} {tag:Nat} {b:List Nat} {nk:Nat} {e e':Ending} (h:GetPost w tag b nk e w') (h':GetPost w1 tag b nk e' w1'):e=e':=by
 obtain ⟨⟨t,ht,rfl⟩ | ⟨hn,rfl⟩,_⟩:=h <;> obtain ⟨⟨t',ht',rfl⟩ | ⟨hn',rfl⟩,_⟩:=h'
 ·rw [IsTime.one ht ht']
 ·exact absurd ht (hn' t)
 ·exact absurd ht' (hn t')
 ·rfl
end Go.Proofs.YtcibjcgipfpniaaGreatDoor
namespace Go.Proofs.YtcibjcgipfpniaaGreatDoor
open Go.RowKit
set_option linter.unusedVariables false
set_option linter.unusedSimpArgs false
attribute [local go_sem ↓] Go.wp_at_zero Go.wp_at_succ

set_option maxRecDepth 100000 in
set_option maxHeartbeats 8000000 in
theorem attr'_any (w:World) (t:Lt) (h:Off [] (ThP t) w) (hf:FitA t.t) :
  Calls Tryz.prog 99 #[t.val] w (AttrP w (attrT true t.t)):=by
 obtain ⟨T,hT'⟩:∃ T,T=t.t:=⟨_,rfl⟩
 obtain ⟨o,HOO⟩:∃ o,Hid (o=attrT true T):=⟨_,rfl⟩
 obtain ⟨qs,hqs⟩:∃ qs,qs=seqL 49 t:=⟨_,rfl⟩
 have HPS:Hid (seqK 49 T=qs.map Lt.t):=Lib.hid (by rw [hT',seq_map,hqs])
 rw [←hT',←HOO.out]
 have HFQ:Hid (∀ x∈qs,x.kids.length≤12000∧∀ p∈x.kids,p.body.length≤12000):=Lib.hid fun x hx=>by
  have h1:=seqL_mem (by rw [←hqs];exact hx)
  obtain ⟨h2,h3⟩:=hf.2 x.t (by rw [(t_parts t).2.2];exact List.mem_map_of_mem h1)
  rw [(t_parts x).2.2] at h2 h3
  rw [List.length_map] at h2
  refine ⟨h2,fun p hp=>?_⟩
  have h4:=h3 p.t (List.mem_map_of_mem hp)
  rwa [(t_parts p).2.1] at h4
 have hkl:t.kids.length≤100000:=by have:=hf.1;rw [(t_parts t).2.2,List.length_map] at this;omega
 have hth:=h.at_
 obtain ⟨tag,ba,bc,body,ka,kc,kids⟩:=t
 have hko:=kids_off h
 have hq2:qs=if seqOk tag body.length 49=true then kids else []:=hqs
 have htag:tag<256:=(ThP.iff.1 hth).1
 have hkl2:kids.length≤100000:=hkl
 obtain ⟨n,hn⟩:∃ n,n=body.length:=⟨_,rfl⟩
 obtain ⟨kn,hkn⟩:∃ k,k=kids.length:=⟨_,rfl⟩
 rw [←hn] at hq2
 rw [←hkn] at hkl2
 have hval:(Lt.mk tag ba bc body ka kc kids).val = .agg #[.int .u8 (tag:Int),.slice ba n bc,.slice ka kn kc]:=by rw [hn,hkn];rfl
 rw [hval]
 have hH1:=Holds.fresh w 32 #[.int .u8 (tag:Int),.slice ba n bc,.slice ka kn kc]
 have hs1:(w.alloc (.cells #[.int .u8 (tag:Int),.slice ba n bc,.slice ka kn kc] 32)).heap.size=w.heap.size+1:=by simp
 have hH2:=hH1.alloc (.cells #[.int .i64 0,.string ⟨#[]⟩] 83)
 have hE2:Holds ((w.alloc (.cells #[.int .u8 (tag:Int),.slice ba n bc,.slice ka kn kc] 32)).alloc (.cells #[.int .i64 0,.string ⟨#[]⟩] 83)) (w.heap.size+1) 83 #[.int .i64 0,.string ⟨#[]⟩]:=by
  have:=Holds.fresh (w.alloc (.cells #[.int .u8 (tag:Int),.slice ba n bc,.slice ka kn kc] 32)) 83 #[.int .i64 0,.string ⟨#[]⟩]
  rw [hs1] at this
  exact this
 have hB2:Below w.heap.size w ((w.alloc (.cells #[.int .u8 (tag:Int),.slice ba n bc,.slice ka kn kc] 32)).alloc (.cells #[.int .i64 0,.string ⟨#[]⟩] 83)):=((Below.refl _ _).alloc (Nat.le_refl _) _).alloc (by omega) _
 obtain ⟨sq,hsq⟩:∃ b,seqOk tag n 49=b:=⟨_,rfl⟩
 rw [hsq] at hq2
 have hgs:=getSeq'_any ((w.alloc (.cells #[.int .u8 (tag:Int),.slice ba n bc,.slice ka kn kc] 32)).alloc (.cells #[.int .i64 0,.string ⟨#[]⟩] 83)) [w.heap.size+1] tag n bc kn kc 49 ba ka kids (((hko.new (g:=w.heap.size+1) (by omega)).alloc _).alloc _) hkn.symm (by omega)
 rw [hsq] at hgs
 have HGS:=Lib.hid hgs
 have HQS:=Lib.hid hq2
 have c0:=hH2.cell 0
 have c1:=hH2.cell 1
 have c2:=hH2.cell 2
 have HE2:=Lib.hid hE2
 have HB2:=Lib.hid hB2

 clear h hf hqs hkl hth hT' hko hq2 htag hn hkn hval hH1 hs1 hH2 hE2 hB2 hgs hkl2 hsq
 go_enter Tryz.func99,Tryz.ntmps99
 go_wp2_with fail
 refine HGS.out.mono ?_
 intro e w3 hm
 obtain ⟨A3,c3,rfl,hk3,hb3⟩:=hm.one
 rw [←HQS.out] at hk3 ⊢
 have HB3:=Lib.hid (HB2.out.trans (hb3.mono HB2.out.size))
 have HE3:=Lib.hid (HE2.out.under hb3 HE2.out.lt)
 have HK3:=Lib.hid (hk3.less (ys:=[]) (fun g hg=>by cases hg))
 obtain ⟨m,hm'⟩:∃ m,m=qs.length:=⟨_,rfl⟩
 have HM:=Lib.hid hm'
 have HM0:Hid (m=(if sq=true then kids else []).length):=Lib.hid (by rw [hm',HQS.out])
 rw [←hm']
 have hmc:m≤c3:=by rw [hm'];exact hk3.at_.1.1
 have hc63:=hk3.at_.1.2.1
 clear hm hb3 hk3 hm' HGS c0 c1 c2
 have HX1:Hid (bad true 1 m=true→o=none):=Lib.hid fun hb=>by rw [HOO.out];unfold attrT;rw [HPS.out,List.length_map,←HM.out,if_pos hb]
 cases sq
 case false =>
  have h0:m=0:=by rw [HM0.out];rfl
  have HNO:Hid (o=none):=Lib.hid (HX1.out (by subst h0;rfl))
  have z0:=HE3.out.cell 0
  have z1:=HE3.out.cell 1
  have y0:=HE3.out.open_ 0
  have y1:=HE3.out.open_ 1
  go_wp2_with fail
  rw [HNO.out]
  exact ret_att rfl rfl rfl ((HE3.out.stored 0 _).stored 1 _) rfl ⟨_,_,rfl,below_att HB3.out (Nat.le_succ _) _ _⟩
 case true =>
  by_cases hq1:m=1
  case neg =>
   have HNO:Hid (o=none):=Lib.hid (HX1.out (by unfold bad;rw [if_pos rfl];exact decide_eq_true hq1))
   have d1:((m:Int) != 1)=true:=by simp;omega
   have z0:=HE3.out.cell 0
   have z1:=HE3.out.cell 1
   have y0:=HE3.out.open_ 0
   have y1:=HE3.out.open_ 1
   go_wp2_with fail
   rw [HNO.out]
   exact ret_att rfl rfl rfl ((HE3.out.stored 0 _).stored 1 _) rfl ⟨_,_,rfl,below_att HB3.out (Nat.le_succ _) _ _⟩
  case pos =>
   have d1:((m:Int) != 1)=false:=by simp;omega
   clear HX1
   obtain ⟨g,off,rfl,hg,hcs⟩:=KiP.cells (j:=0) HK3.out (by rw [←HM.out];omega)
   obtain ⟨p0,p1,p2⟩:=hcs w3 (Below.refl _ _)
   have ht0:=KiP.kid HK3.out (j:=0) (by rw [←HM.out];omega)
   have hf0:=HFQ.out _ (getD_mem (l:=qs) (j:=0) (by rw [←HM.out];omega))
   have HD0:Hid ((seqK 49 T).getD 0 default=(qs.getD 0 default).t):=Lib.hid (by rw [HPS.out];exact lt_at (by rw [←HM.out];omega))
   obtain ⟨q0,hq0⟩:∃ q,q=qs.getD 0 default:=⟨_,rfl⟩
   rw [←hq0] at p0 p1 p2 ht0 hf0 HD0
   obtain ⟨rs,hrs⟩:∃ rs,rs=seqL 48 q0:=⟨_,rfl⟩
   have HRS:Hid (seqK 48 ((seqK 49 T).getD 0 default)=rs.map Lt.t):=Lib.hid (by rw [HD0.out,seq_map,hrs])
   have HFR:Hid (∀ x∈rs,x.body.length≤12000):=Lib.hid fun x hx=>hf0.2 x (seqL_mem (by rw [←hrs];exact hx))
   have HX0:Hid (bad true 1 m≠true):=Lib.hid (by unfold bad;rw [if_pos rfl];simp;omega)
   rw [show off+0*3=off by omega] at p0 p1 p2
   clear hq0 hcs HD0 HFQ
   obtain ⟨x1,b1a,b1c,b1,k1a,k1c,k1⟩:=q0
   dsimp only [Lt.tag,Lt.ba,Lt.bc,Lt.body,Lt.ka,Lt.kc,Lt.kids] at p0 p1 p2 hf0
   have hx1:x1<256:=(ThP.iff.1 ht0.at_).1
   have hrs2:rs=if seqOk x1 b1.length 48=true then k1 else []:=hrs
   obtain ⟨n1,hn1⟩:∃ n,b1.length=n:=⟨_,rfl⟩
   obtain ⟨m1,hm1⟩:∃ n,k1.length=n:=⟨_,rfl⟩
   rw [hn1] at p1 hrs2
   rw [hm1] at p2 hf0
   obtain ⟨sr,hsr⟩:∃ b,seqOk x1 n1 48=b:=⟨_,rfl⟩
   rw [hsr] at hrs2
   have hgs:=getSeq'_any w3 [] x1 n1 b1c m1 k1c 48 b1a k1a k1 (kids_off ht0) hm1 (by omega)
   rw [hsr] at hgs
   have HGS:=Lib.hid hgs
   have HRS2:=Lib.hid hrs2
   clear hgs hrs hrs2 hsr hn1 hm1 ht0
   go_wp2_with fail
   refine HGS.out.mono ?_
   intro e w4 hm
   obtain ⟨A4,c4,rfl,hk4,hb4⟩:=hm.one
   rw [←HRS2.out] at hk4 ⊢
   have HB4:=Lib.hid (HB3.out.trans (hb4.mono HB3.out.size))
   have HE4:=Lib.hid (HE3.out.under hb4 HE3.out.lt)
   have HK4:=Lib.hid hk4
   obtain ⟨r,hr'⟩:∃ r,r=rs.length:=⟨_,rfl⟩
   have HR:=Lib.hid hr'
   have HR0:Hid (r=(if sr=true then k1 else []).length):=Lib.hid (by rw [hr',HRS2.out])
   rw [←hr']
   have hrc:r≤c4:=by rw [hr'];exact hk4.at_.1.1
   have hr63:=hk4.at_.1.2.1
   clear hm hb4 hk4 hr' HGS p0 p1 p2
   have HX2:Hid (bad true 2 r=true→o=none):=Lib.hid fun hb=>by rw [HOO.out];unfold attrT;rw [HPS.out,List.length_map,←HM.out,if_neg HX0.out,←HPS.out,HRS.out,List.length_map,←HR.out,if_pos hb]
   cases sr
   case false =>
    have h0:r=0:=by rw [HR0.out];rfl
    have HNO:Hid (o=none):=Lib.hid (HX2.out (by subst h0;rfl))
    have z0:=HE4.out.cell 0
    have z1:=HE4.out.cell 1
    have y0:=HE4.out.open_ 0
    have y1:=HE4.out.open_ 1
    go_wp2_with fail
    rw [HNO.out]
    exact ret_att rfl rfl rfl ((HE4.out.stored 0 _).stored 1 _) rfl ⟨_,_,rfl,below_att HB4.out (Nat.le_succ _) _ _⟩
   case true =>
    by_cases hq2:r=2
    case neg =>
     have HNO:Hid (o=none):=Lib.hid (HX2.out (by unfold bad;rw [if_pos rfl];exact decide_eq_true hq2))
     have d1:((r:Int) != 2)=true:=by simp;omega
     have z0:=HE4.out.cell 0
     have z1:=HE4.out.cell 1
     have y0:=HE4.out.open_ 0
     have y1:=HE4.out.open_ 1
     go_wp2_with fail
     rw [HNO.out]
     exact ret_att rfl rfl rfl ((HE4.out.stored 0 _).stored 1 _) rfl ⟨_,_,rfl,below_att HB4.out (Nat.le_succ _) _ _⟩
    case pos =>
     have d1:((r:Int) != 2)=false:=by simp;omega
     have HX3:Hid (bad true 2 r≠true):=Lib.hid (by unfold bad;rw [if_pos rfl];simp;omega)
     clear HX2
     obtain ⟨g5,off5,rfl,hg5,hcs⟩:=KiP.cells (j:=0) HK4.out (by rw [←HR.out];omega)
     obtain ⟨g6,off6,he6,hg6,hcs6⟩:=KiP.cells (j:=1) HK4.out (by rw [←HR.out];omega)
     injection he6 with he6
     obtain rfl:g5=g6:=by injection he6
     obtain rfl:off5=off6:=by injection he6
     obtain ⟨p0,p1,p2⟩:=hcs w4 (Below.refl _ _)
     have hta:=KiP.kid HK4.out (j:=0) (by rw [←HR.out];omega)
     have htb:=KiP.kid HK4.out (j:=1) (by rw [←HR.out];omega)
     have hba:=HFR.out _ (getD_mem (l:=rs) (j:=0) (by rw [←HR.out];omega))
     have hbb:=HFR.out _ (getD_mem (l:=rs) (j:=1) (by rw [←HR.out];omega))
     have HO1:Hid (o=if (txB (rs.getD 1 default).t).isSome=true∧(idB (rs.getD 0 default).t).length=3 then some ⟨((idB (rs.getD 0 default).t).getD 2 0:Nat),str (rs.getD 1 default).t.body⟩ else none):=Lib.hid (by
      rw [HOO.out];unfold attrT
      rw [HPS.out,List.length_map,←HM.out,if_neg HX0.out,←HPS.out,HRS.out,List.length_map,←HR.out,if_neg HX3.out,lt_at (by rw [←HR.out];omega),lt_at (by rw [←HR.out];omega)])
     obtain ⟨qa,hqa⟩:∃ q,q=rs.getD 0 default:=⟨_,rfl⟩
     obtain ⟨qb,hqb⟩:∃ q,q=rs.getD 1 default:=⟨_,rfl⟩
     rw [←hqa] at p0 p1 p2 hta hba HO1
     rw [←hqb] at hcs6 htb hbb HO1
     rw [show off5+0*3=off5 by omega] at p0 p1 p2
     rw [show off5+1*3=off5+3 by omega] at hcs6
     have HC6:=Lib.hid hcs6
     clear hqa hqb hcs hcs6 he6 HX0 HX3 HPS HRS HOO HFR HRS2
     obtain ⟨xa,aa,ac,ab,aka,akc,akk⟩:=qa
     obtain ⟨xb,ba',bc',bb,bka,bkc,bkk⟩:=qb
     dsimp only [Lt.tag,Lt.ba,Lt.bc,Lt.body,Lt.ka,Lt.kc,Lt.kids] at p0 p1 p2 HC6 hba hbb
     have hia:idB (Lt.mk xa aa ac ab aka akc akk).t=if (heldOk xa akk.length 6 && idOk ab)=true then ab else []:=by rw [Lt.t_mk];unfold idB;simp [Tr.tag,Tr.kids,Tr.body]
     have htx:txB (Lt.mk xb ba' bc' bb bka bkc bkk).t=txOf xb bkk.length bb:=by rw [Lt.t_mk];unfold txB;simp [Tr.tag,Tr.kids,Tr.body]
     have hbo:(Lt.mk xb ba' bc' bb bka bkc bkk).t.body=bb:=by rw [Lt.t_mk];rfl
     rw [hia,htx,hbo] at HO1
     obtain ⟨na,hna⟩:∃ n,ab.length=n:=⟨_,rfl⟩
     obtain ⟨nb,hnb⟩:∃ n,bb.length=n:=⟨_,rfl⟩
     obtain ⟨ka',hka⟩:∃ n,akk.length=n:=⟨_,rfl⟩
     obtain ⟨kb',hkb⟩:∃ n,bkk.length=n:=⟨_,rfl⟩
     rw [hna] at p1 hba
     rw [hka] at p2 HO1
     rw [hnb] at HC6 hbb
     rw [hkb] at HC6 HO1
     obtain ⟨_,hra,hoa,_⟩:=ThP.iff.1 hta.at_
     obtain ⟨_,_,hob,_⟩:=ThP.iff.1 htb.at_
     have HGI:=Lib.hid (getID'_any w4 xa na ac ka' akc _ aa aka ab hra hna (Nat.le_refl _) hoa (by omega))
     have HTB:=Lib.hid htb
     have HNB:=Lib.hid hnb
     have HOB:=Lib.hid hob
     have HOA:=Lib.hid hoa
     clear hra hoa hob hta htb hnb hna hka hkb hia htx hbo
     go_wp2_with fail
     refine HGI.out.mono ?_
     intro e w5 hm
     obtain ⟨A5,c5,rfl,hm5,hb5⟩:=hm.one
     have hidb:(if (heldOk xa ka' 6 && idOk ab)=true then some ab else none:Option (List Nat)).getD []=if (heldOk xa ka' 6 && idOk ab)=true then ab else []:=by split <;> rfl
     obtain ⟨is_,his⟩:∃ b,(heldOk xa ka' 6 && idOk ab)=b:=⟨_,rfl⟩
     have hiss:(if (heldOk xa ka' 6 && idOk ab)=true then some ab else none:Option (List Nat)).isSome=is_:=by rw [his];cases is_ <;> rfl
     rw [hidb] at hm5 ⊢
     rw [hiss]
     obtain ⟨D,hD⟩:∃ D,(if (heldOk xa ka' 6 && idOk ab)=true then ab else [])=D:=⟨_,rfl⟩
     rw [hD] at hm5 HO1 ⊢
     have hDo:∀ y∈D,y<256:=fun y hy=>by
      rw [←hD] at hy
      split at hy
      ·exact HOA.out y hy
      ·cases hy
     have HDO:=Lib.hid hDo
     have hDn:is_=false→D=[]:=fun h=>by rw [←hD,his,h];rfl
     obtain ⟨nd,hnd⟩:∃ n,D.length=n:=⟨_,rfl⟩
     rw [hnd] at HO1 ⊢
     have HDN:=Lib.hid hDn
     have HND:=Lib.hid hnd
     have HB5:=Lib.hid (HB4.out.trans (hb5.mono HB4.out.size))
     have HE5:=Lib.hid (HE4.out.under hb5 HE4.out.lt)
     have HM5:=Lib.hid hm5
     obtain ⟨p0,p1,p2⟩:=HC6.out w5 hb5
     have hrb:=(ThP.iff.1 (HTB.out.under hb5).at_).2.1
     have hndc:nd≤c5:=by rw [←hnd];exact hm5.le.1
     have hnd63:=hm5.le.2
     have HGT:=Lib.hid (getText'_any w5 xb nb bc' kb' bkc _ ba' bka bb hrb HNB.out (Nat.le_refl _) HOB.out (by omega))
     clear hm hb5 hm5 hidb his hiss hD hDn hDo hnd hrb HGI
     go_wp2_with fail
     refine HGT.out.mono ?_
     intro e w6 hm
     obtain ⟨rfl,hb6⟩:=hm.one
     have HB6:=Lib.hid (HB5.out.trans (hb6.mono HB5.out.size))
     have HE6:=Lib.hid (HE5.out.under hb6 HE5.out.lt)
     have HM6:=Lib.hid (HM5.out.under hb6)
     obtain ⟨tk,htk⟩:∃ b,(txOf xb kb' bb).isSome=b:=⟨_,rfl⟩
     have htg:tk=true→(txOf xb kb' bb).getD []=bb:=fun h=>by
      rw [h] at htk
      unfold txOf at htk ⊢
      split at htk
      ·rename_i h2;rw [if_pos h2];rfl
      ·cases htk
     obtain ⟨X,hX⟩:∃ X,(txOf xb kb' bb).getD []=X:=⟨_,rfl⟩
     rw [hX] at htg
     rw [htk] at HO1
     rw [htk,hX]
     have HTG:=Lib.hid htg
     have z0:=HE6.out.cell 0
     have z1:=HE6.out.cell 1
     have y0:=HE6.out.open_ 0
     have y1:=HE6.out.open_ 1
     clear hm hb6 htk htg hX HGT p0 p1 p2 HM5 HE5
     by_cases hall:tk=true∧nd=3
     ·obtain ⟨rfl,rfl⟩:=hall
      have HSO:Hid (o=some ⟨((D.getD 2 0:Nat):Int),str bb⟩):=Lib.hid (by rw [HO1.out,if_pos ⟨rfl,rfl⟩])
      have hX2:=HTG.out rfl
      subst hX2
      obtain rfl:is_=true:=by rcases is_ with _ | _;(have:=HDN.out rfl;rw [this] at HND;have:=HND.out;simp at this);rfl
      obtain ⟨g7,off7,rfl,hg7,hc7⟩:=HM6.out.rd.2.2 (by rw [HND.out];omega)
      have k7:=hc7 2 (by rw [HND.out];omega)
      have ho7:D.getD 2 0<256:=HDO.out _ (by
       have h:2<D.length:=by rw [HND.out];omega
       simp [List.getD,h])
      obtain ⟨y,hy⟩:∃ y,D.getD 2 0=y:=⟨_,rfl⟩
      rw [hy] at k7 ho7 HSO
      clear hc7 hy HO1
      go_wp2_with fail
      rw [HSO.out]
      exact ret_att rfl rfl rfl ((HE6.out.stored 0 _).stored 1 _) rfl ⟨rfl,below_att HB6.out (Nat.le_succ _) _ _⟩
     ·have HNO:Hid (o=none):=Lib.hid (by rw [HO1.out,if_neg hall])
      cases tk
      ·cases is_ <;> (go_wp2_with fail;rw [HNO.out];exact ret_att rfl rfl rfl ((HE6.out.stored 0 _).stored 1 _) rfl ⟨_,_,rfl,below_att HB6.out (Nat.le_succ _) _ _⟩)
      ·have hn3:nd≠3:=fun h=>hall ⟨rfl,h⟩
       have d3:((nd:Int) != 3)=true:=by simp;omega
       cases is_ <;> (go_wp2_with fail;rw [HNO.out];exact ret_att rfl rfl rfl ((HE6.out.stored 0 _).stored 1 _) rfl ⟨_,_,rfl,below_att HB6.out (Nat.le_succ _) _ _⟩)
end Go.Proofs.YtcibjcgipfpniaaGreatDoor
