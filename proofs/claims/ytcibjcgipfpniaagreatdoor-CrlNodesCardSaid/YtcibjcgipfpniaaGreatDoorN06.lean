/- Words and laws for the statement, part 6. -/
import Derived.WalkKit
import Derived.Deep.RegionLaw
import Derived.Deep.DrawnRows
import Derived.Laws.ResultCell
import Derived.Laws.Cover3
import Derived.Test.YtcibjcgipfpniaaGreatDoorN01
import Derived.Test.YtcibjcgipfpniaaGreatDoorN03
import Derived.Test.YtcibjcgipfpniaaGreatDoorN05
namespace Go.Proofs.YtcibjcgipfpniaaGreatDoor
open Go.RowKit Go.Shelf
set_option linter.unusedVariables false
set_option linter.unusedSimpArgs false
attribute [local go_sem] Oper.semAt_some

/-- Of one thing in a thing: it is not too deep, its tag and parts are such. -/
def fine (p:Nat×Lt):Bool:=ok1 p.2.tag p.2.body.length p.2.kids.length && decide (p.1≤12)
mutual
theorem Lt.fine_items:∀ (t:Lt) (d:Nat),(∀ y∈t.items d,fine y=true)↔t.t.sound d=true
 | .mk tag ba bc body ka kc kids,d=>by
  rw [Lt.items,Lt.t,Tr.sound,Bool.and_eq_true,←Lt.fine_itemss kids (d+1)]
  have hl:(Lt.ts kids).length=kids.length:=by rw [Lt.ts_map,List.length_map]
  constructor
  ·intro h
   refine ⟨?_,fun y hy=>h y (List.mem_cons_of_mem _ hy)⟩
   have:=h _ (List.mem_cons_self ..)
   rw [hl]
   simpa [fine,Lt.tag,Lt.body,Lt.kids] using this
  ·rintro ⟨h1,h2⟩ y hy
   rcases List.mem_cons.1 hy with rfl | hy
   ·rw [hl] at h1
    simpa [fine,Lt.tag,Lt.body,Lt.kids] using h1
   ·exact h2 y hy
theorem Lt.fine_itemss:∀ (l:List Lt) (d:Nat),(∀ y∈Lt.itemss l d,fine y=true)↔Tr.sounds (Lt.ts l) d=true
 | [],d=>by simp [Lt.itemss,Lt.ts,Tr.sounds]
 | x :: r,d=>by
  rw [Lt.itemss,Lt.ts,Tr.sounds,Bool.and_eq_true,←Lt.fine_items x d,←Lt.fine_itemss r d]
  constructor
  ·intro h
   exact ⟨fun y hy=>h y (List.mem_append_left _ hy),fun y hy=>h y (List.mem_append_right _ hy)⟩
  ·rintro ⟨h1,h2⟩ y hy
   rcases List.mem_append.1 hy with hy | hy
   ·exact h1 y hy
   ·exact h2 y hy
end
/-- What the loop holds to. -/
def IsI (b0:Nat) (w:World) (cs:Array Value) (pre:List It) (W:World):Prop :=
 (((W.cell? ⟨b0+2,0,none⟩=some (.int .i64 (pre.length:Int))∧W.frozen? ⟨b0+2,0,none⟩=false)∧(W.cell? ⟨b0+1,0,none⟩=some (.bool false)∧W.frozen? ⟨b0+1,0,none⟩=false) ∧
   (W.cell? ⟨b0,0,none⟩=some (cs.getD 0 undef)∧W.cell? ⟨b0,1,none⟩=some (cs.getD 1 undef)∧W.cell? ⟨b0,2,none⟩=some (cs.getD 2 undef)))∧(∀ y∈pre,fine y.1=true)∧pre.length≤600)∧Below b0 w W
def IsX (b0:Nat) (w:World) (c:Code) (pre:List It) (W:World):Prop :=
 (c = .ret∧((∃ y∈pre,fine y.1=false)∨600<pre.length)∧W.cell? ⟨b0+1,0,none⟩=some (.bool false))∧Below b0 w W
theorem isI_own {b0:Nat} {w:World} {cs:Array Value} (hb:b0≤w.heap.size) {B:Nat} (hB:b0≤B):OwnFrom B (IsI b0 w cs) :=
 OwnFrom.and (Own.from (fun s A B row hs hg hr=>⟨⟨⟨cell_kept hs.1.1.1 hg hr,(frozen_kept hs.1.1.1 hg hr).trans hs.1.1.2⟩,⟨cell_kept hs.1.2.1.1 hg hr,(frozen_kept hs.1.2.1.1 hg hr).trans hs.1.2.1.2⟩,cell_kept hs.1.2.2.1 hg hr,cell_kept hs.1.2.2.2.1 hg hr,cell_kept hs.1.2.2.2.2 hg hr⟩,hs.2⟩) _) (ownFrom_below hb hB)
theorem isX_own {b0:Nat} {w:World} (c:Code) (hb:b0≤w.heap.size) {B:Nat} (hB:b0≤B):OwnFrom B (IsX b0 w c) :=
 OwnFrom.and (Own.from (fun s A B row hs hg hr=>⟨hs.1,hs.2.1,cell_kept hs.2.2 hg hr⟩) _) (ownFrom_below hb hB)
/-- The loop's variables. -/
def IsA (b0:Nat) (cs:Array Value) (x:It) (a':Act) (W:World):Prop :=
 ∃ Bx,b0+3≤Bx∧(W.cell? ⟨Bx,0,none⟩=some (.int .u8 (x.1.2.tag:Int))∧W.cell? ⟨Bx,1,none⟩=some (.slice x.1.2.ba x.1.2.body.length x.1.2.bc)∧W.cell? ⟨Bx,2,none⟩=some (.slice x.1.2.ka x.1.2.kids.length x.1.2.kc)) ∧
  a'={ tmps:=#[.agg cs,.pointer (some ⟨b0,0,none⟩),.pointer (some ⟨b0+1,0,none⟩),.pointer (some ⟨b0+2,0,none⟩),.int .i64 (x.1.1:Int),.pointer (some ⟨Bx,0,none⟩),.agg cs,.func (.func 132) #[] #[.pointer (some ⟨b0+3,0,none⟩)],.int .i64 (x.1.1:Int),.agg #[.int .u8 (x.1.2.tag:Int),.slice x.1.2.ba x.1.2.body.length x.1.2.bc,.slice x.1.2.ka x.1.2.kids.length x.1.2.kc],undef,undef,undef,undef,undef,undef,undef,undef,undef,undef,undef,undef,undef,undef,undef,undef,undef,undef,undef,undef,undef,undef,undef,undef,undef,undef,undef,undef,undef,undef,undef,undef,undef,undef,undef,undef,undef,undef],defers:=[] }
theorem isA_own {b0:Nat} {cs:Array Value} (x:It) (a':Act) {B:Nat}:OwnFrom B (fun (_:Unit) W=>IsA b0 cs x a' W) :=
 Own.from (fun _ A B row hs hg hr=>by
  obtain ⟨Bx,h0,⟨h1,h2,h3⟩,h4⟩:=hs
  exact ⟨Bx,h0,⟨cell_kept h1 hg hr,cell_kept h2 hg hr,cell_kept h3 hg hr⟩,h4⟩) _
set_option maxRecDepth 100000 in
set_option maxHeartbeats 4000000 in
theorem isTl_any (t:Lt) (w:World) (B:Nat) (hr:TrAt w B t) (hB:B≤w.heap.size) (hmc:t.t.count≤1000000) (hmx:t.t.enc.length≤400000) :
  Calls Tryz.prog 75 #[t.val] w fun e w'=>e = .returned (.bool (isT t.t))∧Below w.heap.size w w':=by
 have hcl:t.cells=#[.int .u8 (t.tag:Int),.slice t.ba t.body.length t.bc,.slice t.ka t.kids.length t.kc]:=rfl
 have HALL:=Lib.hid (fun W=>all_in Fence.wide 2 trivial rfl t W)
 have hinl:t.t.inl≤400000:=by rw [Tr.enc_len] at hmx;omega
 have HSZ:Hid (∀ W,Below w.heap.size w W→Calls Tryz.prog 110 #[t.val] W fun e w'=>e = .returned (.int .i64 (t.t.enc.length:Int))∧Below W.heap.size W w'):=Lib.hid fun W hW=>size_any t W B (hr.under' (hW.mono hB)) (by have:=hW.size;omega) hinl
 obtain ⟨w1,hw1⟩:∃ w1,w.alloc (.cells t.cells 32)=w1:=⟨_,rfl⟩
 obtain ⟨w2,hw2⟩:∃ w2,w1.alloc (.cells #[.bool false] 4)=w2:=⟨_,rfl⟩
 obtain ⟨w3,hw3⟩:∃ w3,w2.alloc (.cells #[.int .i64 0] 3)=w3:=⟨_,rfl⟩
 obtain ⟨w4,hw4⟩:∃ w4,w3.alloc (.cells t.cells 32)=w4:=⟨_,rfl⟩
 have hs1:w1.heap.size=w.heap.size+1:=by rw [←hw1];simp
 have hs2:w2.heap.size=w.heap.size+2:=by rw [←hw2];simp [hs1]
 have hs3:w3.heap.size=w.heap.size+3:=by rw [←hw3];simp [hs2]
 have hs4:w4.heap.size=w.heap.size+4:=by rw [←hw4];simp [hs3]
 have hb1:Below w.heap.size w w1:=by rw [←hw1];exact (Below.refl _ _).alloc (Nat.le_refl _) _
 have hb2:Below w.heap.size w w2:=by rw [←hw2];exact hb1.alloc hb1.size _
 have hb3:Below w.heap.size w w3:=by rw [←hw3];exact hb2.alloc hb2.size _
 have hb4:Below w.heap.size w w4:=by rw [←hw4];exact hb3.alloc hb3.size _
 have hbx1:Holds w1 w.heap.size 32 t.cells:=by rw [←hw1];exact Holds.fresh _ _ _
 have hbx3:Holds w3 w.heap.size 32 t.cells:=by rw [←hw3,←hw2];exact (hbx1.alloc _).alloc _
 have hbx4:Holds w4 w.heap.size 32 t.cells:=by rw [←hw4];exact hbx3.alloc _
 have hrs:Holds w4 (w.heap.size+1) 4 #[.bool false]:=by
  rw [←hw4,←hw3,←hw2,←hs1]
  exact ((Holds.fresh w1 4 #[.bool false]).alloc _).alloc _
 have hct:Holds w4 (w.heap.size+2) 3 #[.int .i64 0]:=by
  rw [←hw4,←hw3,←hs2]
  exact (Holds.fresh w2 3 #[.int .i64 0]).alloc _
 have hit:Holds w4 (w.heap.size+3) 32 t.cells:=by
  rw [←hw4,←hs3]
  exact Holds.fresh _ _ _
 have HST:=Lib.hid (all_stops Fence.wide rfl 2 trivial trivial rfl (w.heap.size+3) (w.heap.size+1) (w.heap.size+2) B t w4 hit (hr.under' (hb4.mono hB)) (by omega) (by omega) (by omega) (by omega) (by omega) (by omega))
 have HBX:=Lib.hid hbx4
 have HRS:=Lib.hid hrs
 have HCT:=Lib.hid hct
 have HB4:=Lib.hid hb4
 have HLEN:Hid (∀ ys:List It,ys.map (·.1)=t.items 1→ys.length=t.t.count):=Lib.hid fun ys h=>by rw [←Lt.items_len t 1,←h,List.length_map]
 have HALLF:Hid (∀ ys:List It,ys.map (·.1)=t.items 1→(∀ y∈ys,fine y.1=true)→ys.length≤600→isT t.t=decide (t.t.enc.length≤12000)):=Lib.hid fun ys h h1 h2=>by
  have hs:t.t.sound 1=true:=(Lt.fine_items t 1).1 fun y hy=>by
   rw [←h] at hy
   obtain ⟨z,hz,rfl⟩:=List.mem_map.1 hy
   exact h1 z hz
  have hc:t.t.count≤600:=by rw [←HLEN.out ys h];exact h2
  unfold isT
  rw [hs]
  simp [hc]
 have HNOT:Hid (∀ pre:List It,pre.map (·.1) <+: t.items 1→((∃ y∈pre,fine y.1=false)∨600<pre.length)→isT t.t=false):=Lib.hid fun pre h hb=>by
  rcases hb with ⟨y,hy,hf⟩ | hb
  ·have:t.t.sound 1=false:=by
    cases e:t.t.sound 1
    ·rfl
    ·have h2:=(Lt.fine_items t 1).2 e y.1 (h.subset (List.mem_map.2 ⟨y,hy,rfl⟩))
     rw [hf] at h2
     cases h2
   unfold isT
   rw [this]
   rfl
  ·have hl:=h.length_le
   rw [List.length_map,Lt.items_len] at hl
   have:¬ t.t.count≤600:=by omega
   unfold isT
   simp [this]
 generalize t.t.count=cnt at *
 generalize t.items 1=its at *
 generalize isT t.t=res at *
 generalize t.t.enc.length=el at *
 rw [Lt.val_eq] at HALL HSZ ⊢
 rw [hcl] at HALL hbx1 hbx3 hw1 hw4 HBX
 clear hcl hr hit hct hrs hb4 hb1 hb2 hb3 hbx4 hinl
 generalize t.tag=tag at *
 generalize t.ba=ba at *
 generalize t.bc=bc at *
 generalize t.body.length=bl at *
 generalize t.ka=ka at *
 generalize t.kids.length=n at *
 generalize t.kc=kc at *
 have y0:w1.cell? ⟨w.heap.size,0,none⟩=some (.int .u8 (tag:Int)):=hbx1.cell 0
 have y1:w1.cell? ⟨w.heap.size,1,none⟩=some (.slice ba bl bc):=hbx1.cell 1
 have y2:w1.cell? ⟨w.heap.size,2,none⟩=some (.slice ka n kc):=hbx1.cell 2
 have z0:w3.cell? ⟨w.heap.size,0,none⟩=some (.int .u8 (tag:Int)):=hbx3.cell 0
 have z1:w3.cell? ⟨w.heap.size,1,none⟩=some (.slice ba bl bc):=hbx3.cell 1
 have z2:w3.cell? ⟨w.heap.size,2,none⟩=some (.slice ka n kc):=hbx3.cell 2
 rw [←hw1] at y0 y1 y2
 rw [←hw3,←hw2,←hw1] at z0 z1 z2
 rw [←hw4,←hw3,←hw2,←hw1] at HST HCT HB4 HRS HBX
 clear hbx1 hbx3 hw1 hw2 hw3 hw4 hs1 hs2 hs3 hs4
 refine (callsIn_wide (n:=3)).1 ?_
 refine callsIn_of_wp_marks Tryz.func75 rfl trivial ?_ rfl
 simp only [Tryz.ntmps75,List.size_toArray,List.length_cons,List.length_nil,Nat.reduceAdd,Nat.reduceSub,Array.replicate_succ,Array.replicate_zero,List.push_toArray,List.append_toArray,List.nil_append,List.cons_append]
 gi_wp2_with (refine ⟨trivial,?_⟩;gi_at_call 107;refine (HALL.out _).mono ?_;rintro e w' ⟨rfl,rfl⟩)
 have hsz:((((w.alloc (.cells #[.int .u8 (tag:Int),.slice ba bl bc,.slice ka n kc] 32)).alloc (.cells #[.bool false] 4)).alloc (.cells #[.int .i64 0] 3)).alloc (.cells #[.int .u8 (tag:Int),.slice ba bl bc,.slice ka n kc] 32)).heap.size=w.heap.size+4:=by simp
 generalize ((((w.alloc (.cells #[.int .u8 (tag:Int),.slice ba bl bc,.slice ka n kc] 32)).alloc (.cells #[.bool false] 4)).alloc (.cells #[.int .i64 0] 3)).alloc (.cells #[.int .u8 (tag:Int),.slice ba bl bc,.slice ka n kc] 32))=W4 at *
 clear z0 z1 z2 y0 y1 y2 HALL
 refine wpIn_rangeFunc_ownH rfl (by omega) (gf:=132) (lb:=#[.pointer (some ⟨w.heap.size+3,0,none⟩)]) rfl trivial (enters_of Tryz.func132 (by kernel_rfl) rfl) HST.out PassX.trans (fun W l o o' _ hl ho _=>passX_put W l o o' hl ho) (Below.refl _ _) (fun _=>rfl)
  (IsI w.heap.size w #[.int .u8 (tag:Int),.slice ba bl bc,.slice ka n kc]) (IsX w.heap.size w) (isI_own (Nat.le_refl _) (by omega)) (fun c=>isX_own c (Nat.le_refl _) (by omega))
  ⟨⟨⟨⟨HCT.out.cell 0,HCT.out.open_ 0⟩,⟨HRS.out.cell 0,HRS.out.open_ 0⟩,HBX.out.cell 0,HBX.out.cell 1,HBX.out.cell 2⟩,(fun y hy=>by cases hy),Nat.zero_le _⟩,HB4.out⟩
  (IsA w.heap.size #[.int .u8 (tag:Int),.slice ba bl bc,.slice ka n kc]) (fun x a'=>isA_own x a') ?assign ?body ?done ?stop
 case assign =>
  intro l pre x W K hI hK
  have hWs:w.heap.size+2<W.heap.size:=World.block_lt_of_cell? W _ hI.1.1.1.1
  simp [itv,Lt.val_eq]
  gi_wp2
  exact hK _ _ ((KeepsOthers.alloc _ _).from _) (PassX.alloc _ _ _ _) ((isI_own (Nat.le_refl _) (Nat.le_refl _)).alloc _ hI) ⟨W.heap.size,hWs,⟨(Holds.fresh W _ _).cell 0,(Holds.fresh W _ _).cell 1,(Holds.fresh W _ _).cell 2⟩,rfl⟩
 case body =>
  rintro l pre x a' W hlW hloop ⟨⟨⟨⟨hc,hcf⟩,⟨hr,hrf⟩,x0,x1,x2⟩,hfine,hlen⟩,hBW⟩ ⟨Bx,hBx,⟨b0,b1,b2⟩,rfl⟩ hltc
  have htg:=x.2
  have HFX:Hid (fine x.1=(ok1 x.1.2.tag x.1.2.body.length x.1.2.kids.length && decide (x.1.1≤12))):=Lib.hid rfl
  have HPL:Hid ((pre ++ [x]).length=pre.length+1):=Lib.hid (by simp)
  have HMEM:Hid (x∈pre ++ [x]):=Lib.hid (by simp)
  have HFN:Hid (fine x.1=true→∀ y∈pre ++ [x],fine y.1=true):=Lib.hid fun h y hy=>by
   rcases List.mem_append.1 hy with h2 | h2
   ·exact hfine y h2
   ·rw [List.mem_singleton.1 h2];exact h
  have HBAD:Hid (fine x.1=false→∃ y∈pre ++ [x],fine y.1=false):=Lib.hid fun h=>⟨x,HMEM.out,h⟩
  generalize fine x.1=fx at *
  have hxx:(pre ++ [x]).length=pre.length+1:=HPL.out
  have hbb2:Below w.heap.size w (W.setCell ⟨w.heap.size+2,0,none⟩ (.int .i64 ((pre.length:Int)+1))):=hBW.setCell (p:=⟨w.heap.size+2,0,none⟩) (by show _≤w.heap.size+2;omega) _
  have o1:∀ b o,b≠w.heap.size+2→(W.setCell ⟨w.heap.size+2,0,none⟩ (.int .i64 ((pre.length:Int)+1))).cell? ⟨b,o,none⟩=W.cell? ⟨b,o,none⟩:=fun b o hb=>World.cell?_of_block (Below.heap_setCell W ⟨w.heap.size+2,0,none⟩ _ b hb)
  have f1:∀ b o,b≠w.heap.size+2→(W.setCell ⟨w.heap.size+2,0,none⟩ (.int .i64 ((pre.length:Int)+1))).frozen? ⟨b,o,none⟩=W.frozen? ⟨b,o,none⟩:=fun b o hb=>by rw [World.frozen?_setCell]
  have e0:(W.setCell ⟨w.heap.size+2,0,none⟩ (.int .i64 ((pre.length:Int)+1))).cell? ⟨Bx,0,none⟩=some (.int .u8 (x.1.2.tag:Int)):=(o1 _ _ (by omega)).trans b0
  have e1:(W.setCell ⟨w.heap.size+2,0,none⟩ (.int .i64 ((pre.length:Int)+1))).cell? ⟨Bx,1,none⟩=some (.slice x.1.2.ba x.1.2.body.length x.1.2.bc):=(o1 _ _ (by omega)).trans b1
  have e2:(W.setCell ⟨w.heap.size+2,0,none⟩ (.int .i64 ((pre.length:Int)+1))).cell? ⟨Bx,2,none⟩=some (.slice x.1.2.ka x.1.2.kids.length x.1.2.kc):=(o1 _ _ (by omega)).trans b2
  have e3:(W.setCell ⟨w.heap.size+2,0,none⟩ (.int .i64 ((pre.length:Int)+1))).cell? ⟨w.heap.size+1,0,none⟩=some (.bool false):=(o1 _ _ (by omega)).trans hr
  have e4:(W.setCell ⟨w.heap.size+2,0,none⟩ (.int .i64 ((pre.length:Int)+1))).frozen? ⟨w.heap.size+1,0,none⟩=false:=(f1 _ _ (by omega)).trans hrf
  have e5:(W.setCell ⟨w.heap.size+2,0,none⟩ (.int .i64 ((pre.length:Int)+1))).cell? ⟨w.heap.size+2,0,none⟩=some (.int .i64 ((pre.length:Int)+1)):=World.cell?_setCell_same' _ _ _ (by rw [hc];rfl)
  have HRET:Hid ((∃ y∈pre ++ [x],fine y.1=false)∨600<(pre ++ [x]).length→IsX w.heap.size w .ret (pre ++ [x]) ((W.setCell ⟨w.heap.size+2,0,none⟩ (.int .i64 ((pre.length:Int)+1))).setCell ⟨w.heap.size+1,0,none⟩ (.bool false))):=Lib.hid fun h=>⟨⟨rfl,h,World.cell?_setCell_same' _ _ _ (by rw [e3];rfl)⟩,hbb2.setCell (p:=⟨w.heap.size+1,0,none⟩) (by show _≤w.heap.size+1;omega) _⟩
  have HOKE:Hid (fx=true∧(pre ++ [x]).length≤600→IsI w.heap.size w #[.int .u8 (tag:Int),.slice ba bl bc,.slice ka n kc] (pre ++ [x]) (W.setCell ⟨w.heap.size+2,0,none⟩ (.int .i64 ((pre.length:Int)+1)))):=Lib.hid fun h=>⟨⟨⟨⟨by rw [hxx,e5];push_cast;rfl,by rw [World.frozen?_setCell];exact hcf⟩,⟨e3,e4⟩,(o1 _ _ (by omega)).trans x0,(o1 _ _ (by omega)).trans x1,(o1 _ _ (by omega)).trans x2⟩,HFN.out h.1,h.2⟩,hbb2⟩
  have hws:IntKind.i64.wrap ((pre.length:Int)+1)=(pre.length:Int)+1:=IntWalk.i64_in _ (by omega)
  have HXL:=Lib.hid hxx
  clear o1 f1 hbb2 x0 x1 x2 b0 b1 b2 hxx hfine HMEM HPL hlW hloop
  generalize x.1.2.tag=tg at *
  generalize x.1.2.ba=xba at *
  generalize x.1.2.bc=xbc at *
  generalize x.1.2.body.length=xbl at *
  generalize x.1.2.ka=xka at *
  generalize x.1.2.kids.length=xn at *
  generalize x.1.2.kc=xkc at *
  generalize x.1.1=dd at *
  generalize pre.length=pl at *
  by_cases h2:dd≤12
  case neg =>
   have d1:decide ((12:Int)<(dd:Int))=true:=decide_eq_true (by omega)
   have d2:decide (12<dd)=true:=decide_eq_true (by omega)
   have hbad:(∃ y∈pre ++ [x],fine y.1=false)∨600<(pre ++ [x]).length:=.inl (HBAD.out (by rw [HFX.out];simp [h2]))
   gi_wp2
   refine ⟨trivial,?_⟩
   gi_wp2
   exact ⟨((KeepsOthers.setCell _ _ _).trans (KeepsOthers.setCell _ _ _)).from _,HRET.out hbad⟩
  have d1:decide ((12:Int)<(dd:Int))=false:=decide_eq_false (by omega)
  have d2:decide (12<dd)=false:=decide_eq_false (by omega)
  by_cases h6:600≤pl
  case pos =>
   have d3:decide ((600:Int)<(pl:Int)+1)=true:=decide_eq_true (by omega)
   have d4:decide ((600:Int)≤(pl:Int))=true:=decide_eq_true (by omega)
   have d5:decide (600≤pl)=true:=decide_eq_true (by omega)
   have hbad:(∃ y∈pre ++ [x],fine y.1=false)∨600<(pre ++ [x]).length:=.inr (by rw [HXL.out];omega)
   gi_wp2
   refine ⟨trivial,?_⟩
   gi_wp2
   exact ⟨((KeepsOthers.setCell _ _ _).trans (KeepsOthers.setCell _ _ _)).from _,HRET.out hbad⟩
  have d3:decide ((600:Int)<(pl:Int)+1)=false:=decide_eq_false (by omega)
  have d4:decide ((600:Int)≤(pl:Int))=false:=decide_eq_false (by omega)
  have d5:decide (600≤pl)=false:=decide_eq_false (by omega)
  rcases h1:tagOk tg with _ | _
  case false =>
   have hbad:(∃ y∈pre ++ [x],fine y.1=false)∨600<(pre ++ [x]).length:=.inl (HBAD.out (by rw [HFX.out];simp [ok1,h1]))
   gi_wp2_with (refine ⟨trivial,?_⟩;gi_at_call 108;refine (CallsIn.inRound l (callsIn_wide.2 (tagged_any _ tg htg))).mono ?_;rintro e w' ⟨rfl,rfl⟩;rw [h1])
   exact ⟨((KeepsOthers.setCell _ _ _).trans (KeepsOthers.setCell _ _ _)).from _,HRET.out hbad⟩
  rcases h3:parted tg with _ | _
  case false =>
   by_cases h4:0<xn
   case pos =>
    have d6:decide ((0:Int)<(xn:Int))=true:=decide_eq_true (by omega)
    have d7:decide (0<xn)=true:=decide_eq_true (by omega)
    have hbad:(∃ y∈pre ++ [x],fine y.1=false)∨600<(pre ++ [x]).length:=.inl (HBAD.out (by rw [HFX.out];simp [ok1,h1,h3,h4]))
    gi_wp2_with (first
     | (refine ⟨trivial,?_⟩;gi_at_call 108;refine (CallsIn.inRound l (callsIn_wide.2 (tagged_any _ tg htg))).mono ?_;rintro e w' ⟨rfl,rfl⟩;rw [h1])
     | (refine ⟨trivial,?_⟩;gi_at_call 109;refine (CallsIn.inRound l (callsIn_wide.2 (constructed_any _ tg htg))).mono ?_;rintro e w' ⟨rfl,rfl⟩;rw [h3]))
    exact ⟨((KeepsOthers.setCell _ _ _).trans (KeepsOthers.setCell _ _ _)).from _,HRET.out hbad⟩
   case neg =>
    have d6:decide ((0:Int)<(xn:Int))=false:=decide_eq_false (by omega)
    have d7:decide (0<xn)=false:=decide_eq_false (by omega)
    have hgood:fx=true∧(pre ++ [x]).length≤600:=⟨by rw [HFX.out];simp [ok1,h1,h3,h4,h2],by rw [HXL.out];omega⟩
    gi_wp2_with (first
     | (refine ⟨trivial,?_⟩;gi_at_call 108;refine (CallsIn.inRound l (callsIn_wide.2 (tagged_any _ tg htg))).mono ?_;rintro e w' ⟨rfl,rfl⟩;rw [h1])
     | (refine ⟨trivial,?_⟩;gi_at_call 109;refine (CallsIn.inRound l (callsIn_wide.2 (constructed_any _ tg htg))).mono ?_;rintro e w' ⟨rfl,rfl⟩;rw [h3]))
    exact ⟨(KeepsOthers.setCell _ _ _).from _,passX_set _ _ _ (.inr rfl),HOKE.out hgood⟩
  case true =>
   by_cases h4:0<xbl
   case pos =>
    have d6:decide ((0:Int)<(xbl:Int))=true:=decide_eq_true (by omega)
    have d7:decide (0<xbl)=true:=decide_eq_true (by omega)
    have hbad:(∃ y∈pre ++ [x],fine y.1=false)∨600<(pre ++ [x]).length:=.inl (HBAD.out (by rw [HFX.out];simp [ok1,h1,h3,h4]))
    gi_wp2_with (first
     | (refine ⟨trivial,?_⟩;gi_at_call 108;refine (CallsIn.inRound l (callsIn_wide.2 (tagged_any _ tg htg))).mono ?_;rintro e w' ⟨rfl,rfl⟩;rw [h1])
     | (refine ⟨trivial,?_⟩;gi_at_call 109;refine (CallsIn.inRound l (callsIn_wide.2 (constructed_any _ tg htg))).mono ?_;rintro e w' ⟨rfl,rfl⟩;rw [h3]))
    refine ⟨trivial,?_⟩
    gi_wp2
    all_goals first
     | exact ⟨((KeepsOthers.setCell _ _ _).trans (KeepsOthers.setCell _ _ _)).from _,HRET.out hbad⟩
     | (rename_i bb hu hb;exact absurd hu (by simp [undef]))
   case neg =>
    have d6:decide ((0:Int)<(xbl:Int))=false:=decide_eq_false (by omega)
    have d7:decide (0<xbl)=false:=decide_eq_false (by omega)
    have hgood:fx=true∧(pre ++ [x]).length≤600:=⟨by rw [HFX.out];simp [ok1,h1,h3,h4,h2],by rw [HXL.out];omega⟩
    gi_wp2_with (first
     | (refine ⟨trivial,?_⟩;gi_at_call 108;refine (CallsIn.inRound l (callsIn_wide.2 (tagged_any _ tg htg))).mono ?_;rintro e w' ⟨rfl,rfl⟩;rw [h1])
     | (refine ⟨trivial,?_⟩;gi_at_call 109;refine (CallsIn.inRound l (callsIn_wide.2 (constructed_any _ tg htg))).mono ?_;rintro e w' ⟨rfl,rfl⟩;rw [h3]))
    exact ⟨(KeepsOthers.setCell _ _ _).from _,passX_set _ _ _ (.inr rfl),HOKE.out hgood⟩
 case done =>
  rintro D ys W hD hS ⟨⟨⟨⟨hc,hcf⟩,⟨hr,hrf⟩,x0,x1,x2⟩,hfine,hlen⟩,hBW⟩ hK
  have HRES:=Lib.hid (HALLF.out ys hS hfine hlen)
  have HC:=Lib.hid (HSZ.out W hBW)
  have x0':W.cell? ⟨w.heap.size,0,none⟩=some (.int .u8 (tag:Int)):=x0
  have x1':W.cell? ⟨w.heap.size,1,none⟩=some (.slice ba bl bc):=x1
  have x2':W.cell? ⟨w.heap.size,2,none⟩=some (.slice ka n kc):=x2
  clear x0 x1 x2
  have hlt1:w.heap.size+1<W.heap.size:=World.block_lt_of_cell? W _ hr
  have hltD:D<W.heap.size:=(Array.getElem?_eq_some_iff.1 hK).1
  gi_wp2_with (refine ⟨trivial,?_⟩;gi_at_call 110;refine (callsIn_wide.2 HC.out).mono ?_;rintro e w' ⟨rfl,hb'⟩;have hr2:w'.cell? ⟨w.heap.size+1,0,none⟩=some (.bool false):=(hb'.cell (p:=⟨w.heap.size+1,0,none⟩) hlt1).trans hr;have hrf2:w'.frozen? ⟨w.heap.size+1,0,none⟩=false:=(hb'.frozen (p:=⟨w.heap.size+1,0,none⟩) hlt1).trans hrf)
  have hd2:w'.heap[D]?=some (.deferred (some [])):=(hb'.block D hltD).trans hK
  have hd3:=(KeepsOthers.setCell w' ⟨w.heap.size+1,0,none⟩ (.bool (decide ((el:Int)≤12000)))).same D _ hd2 rfl
  have hr3:(w'.setCell ⟨w.heap.size+1,0,none⟩ (.bool (decide ((el:Int)≤12000)))).cell? ⟨w.heap.size+1,0,none⟩=some (.bool (decide ((el:Int)≤12000))):=World.cell?_setCell_same' _ _ _ (by rw [hr2];rfl)
  have hr4:=cell_kept hr3 (grownBy_putObj' _ D (.deferred none)) (fun r e=>by cases e;exact ⟨_,hd3,rfl⟩)
  refine ⟨by simp,.inl ⟨_,_,rfl,run_takeDeferred hd3,?_⟩⟩
  have hBF:Below w.heap.size w ((w'.setCell ⟨w.heap.size+1,0,none⟩ (.bool (decide ((el:Int)≤12000)))).putObj D (.deferred none)) :=
   ((hBW.trans (hb'.mono hBW.size)).setCell (p:=⟨w.heap.size+1,0,none⟩) (by show _≤w.heap.size+1;omega) _).trans (belowK_b (w:=w) (Nat.le_refl _) _ D _ _ (by omega) hd3 rfl rfl)
  have hdd:decide ((el:Int)≤12000)=res:=by rw [HRES.out,decide_eq_decide];omega
  exact ⟨.bool (decide ((el:Int)≤12000)),by simp [results,Tryz.results75,go_sem,hr4],by rw [hdd],hBF⟩
 case stop =>
  rintro D c pre W hD hS ⟨⟨rfl,hbad,hr⟩,hBW⟩ hK
  have HRES:=Lib.hid (HNOT.out pre hS hbad)
  have hr4:=cell_kept hr (grownBy_putObj' _ D (.deferred none)) (fun r e=>by cases e;exact ⟨_,hK,rfl⟩)
  gi_wp2
  refine ⟨by simp,.inl ⟨_,_,rfl,run_takeDeferred hK,?_⟩⟩
  exact ⟨.bool false,by simp [results,Tryz.results75,go_sem,hr4],by rw [HRES.out],hBW.trans (belowK_b (w:=w) (Nat.le_refl _) W D _ _ (by omega) hK rfl rfl)⟩
end Go.Proofs.YtcibjcgipfpniaaGreatDoor
namespace Go.Proofs.YtcibjcgipfpniaaGreatDoor
open Go.RowKit
set_option linter.unusedVariables false
set_option linter.unusedSimpArgs false

/-- Where a slice goes on behind its first k elements. -/
def dropA (A:Option Addr) (k c:Nat):Option Addr:=if c=k then A else A.map fun a=>a.add k
theorem under22:Tryz.prog.underlying 24 = some (.slice (Tryz.prog.elem 24)):=by kernel_rfl
theorem size22 (W:World):(sizeOf (Tryz.prog.elem 24)).run Tryz.prog W = .ok 1 W:=by kernel_rfl
theorem run_drop (W:World) (A:Option Addr) (n c k:Nat) (hk:k≤n) (hn:n≤c) :
  (Instr.sliceAt 24 (.slice A n c) (some (.int .i64 (k:Int))) none none).run Tryz.prog W = .ok (.slice (dropA A k c) (n - k) (c - k)) W:=by
 rw [run_sliceAt_slice _ _ _ _ _ _ under22,run_slice_l _ _ _ _ _ under22 .i64 (k:Int) (by omega) (by omega),size22]
 simp [Result.andThen,sliced,dropA]
theorem Rd.drop {k:IntKind} {w:World} {B:Nat} {A:Option Addr} {c:Nat} {l:List Nat} (h:Rd k w B A c l) (m:Nat) (hm:m≤l.length):Rd k w B (dropA A m c) (c - m) (l.drop m):=by
 refine ⟨by rw [List.length_drop];have:=h.1;omega,by have:=h.2.1;omega,fun hn=>?_⟩
 rw [List.length_drop] at hn
 obtain ⟨b,off,rfl,hb,hc⟩:=h.2.2 (by omega)
 have h1:=h.1
 refine ⟨b,off+m,?_,hb,fun j hj=>?_⟩
 ·unfold dropA
  rw [if_neg (by omega)]
  simp [Addr.add]
 ·rw [List.length_drop] at hj
  rw [Nat.add_assoc,hc (m+j) (by omega)]
  simp [List.getD]
/-- Bytes as a number, the greatest first. -/
def big (l:List Nat):Nat:=l.foldl (fun a x=>a*256+x) 0
/-- A length that bytes begin with, of what is behind it, and how many bytes it has; none: there is none. -/
def lenOf:List Nat→Option (Nat×Nat)
 | []=>none
 | x :: r=>if x<128 then (if x≤r.length then some (x,1) else none)
  else if x≠128∧x - 128≤r.length∧r.getD 0 0≠0∧128≤big (r.take (x - 128))∧big (r.take (x - 128))≤r.length - (x - 128) then some (big (r.take (x - 128)),x - 127) else none
end Go.Proofs.YtcibjcgipfpniaaGreatDoor
namespace Go.Proofs.YtcibjcgipfpniaaGreatDoor
open Go.RowKit
set_option linter.unusedVariables false
set_option linter.unusedSimpArgs false

def LenPost (w:World) (Br:Nat) (A:Option Addr) (n c:Nat):Option (Nat×Nat)→Ending→World→Prop
 | none,e,w'=>e = .returned (.tuple #[.int .i64 0,.bool false])∧w'=w
 | some (k,u),e,w'=>e = .returned (.tuple #[.int .i64 (k:Int),.bool true])∧w'=w.setCell ⟨Br,0,none⟩ (.slice (dropA A u c) (n - u) (c - u))
def RelRL (m:Nat) (rr:List Nat) (w:World) (v i:Value) (wr:World):Prop :=
 ∃ j x:Nat,j≤m∧i = .int .i64 (j:Int)∧v = .int .i64 (x:Int)∧x≤12000∧Hid (x=big (rr.take j))∧wr=w
end Go.Proofs.YtcibjcgipfpniaaGreatDoor
namespace Go.Proofs.YtcibjcgipfpniaaGreatDoor
open Go.RowKit
set_option linter.unusedVariables false
set_option linter.unusedSimpArgs false

theorem flat_length {α β:Type} {f:α→List β} {m:Nat}:∀ {L:List α},(∀ x∈L,(f x).length=m)→(L.flatMap f).length=m*L.length
 | [],_=>rfl
 | x :: L,h=>by
  rw [List.flatMap_cons,List.length_append,h x (by simp),flat_length (L:=L) (fun y hy=>h y (by simp [hy])),List.length_cons,Nat.mul_add,Nat.mul_one,Nat.add_comm]
theorem flat_at {α β:Type} {f:α→List β} {m:Nat}:∀ {L:List α},(∀ x∈L,(f x).length=m)→∀ {i j:Nat} {x:α},L[i]?=some x→j<m→(L.flatMap f)[m*i+j]?=(f x)[j]?
 | [],_,i,j,x,hx,_=>by simp at hx
 | y :: L,h,0,j,x,hx,hj=>by
  obtain rfl:y=x:=by simpa using hx
  rw [List.flatMap_cons,Nat.mul_zero,Nat.zero_add,List.getElem?_append_left (by rw [h y (by simp)];exact hj)]
 | y :: L,h,i+1,j,x,hx,hj=>by
  have hx':L[i]?=some x:=by simpa using hx
  rw [List.flatMap_cons,List.getElem?_append_right (by rw [h y (by simp),Nat.mul_add];omega),h y (by simp),show m*(i+1)+j - m=m*i+j by rw [Nat.mul_add];omega]
  exact flat_at (fun z hz=>h z (by simp [hz])) hx' hj
/-- The slice '.slice A n c' holds the cells vs, sz cells an element, and is its holder's own. -/
def OwnV (e:TypeId) (sz:Nat) (w:World) (A:Option Addr) (c n:Nat) (vs:List Value):Prop:=w.ownsRow 0 e sz (.slice A n c) n vs
section
variable {e:TypeId} {sz:Nat} {w w':World} {A:Option Addr} {c n:Nat} {vs:List Value}
theorem OwnV.nil (e:TypeId) (sz:Nat) (w:World):OwnV e sz w none 0 0 []:=World.ownsRow_nil w 0 e sz
theorem OwnV.lt (h:OwnV e sz w A c n vs) {g:Nat} (hg:blockOf A=some g):g<w.heap.size:=(World.ownsRow.lt h g (by rwa [ownBlock_eq])).2
theorem OwnV.keep (h:OwnV e sz w A c n vs) (hk:∀ g,blockOf A=some g→g<w.heap.size→w'.heap[g]?=w.heap[g]?):OwnV e sz w' A c n vs:=by
 refine ⟨h.1,?_⟩
 rcases h.2 with hn | ⟨g,cap,cur,hv,hB,hgg,rest⟩
 ·exact .inl hn
 ·refine .inr ⟨g,cap,cur,hv,hB,?_,rest⟩
  injection hv with hA _ _
  exact (hk g (by rw [hA];rfl) (Array.getElem?_eq_some_iff.1 hgg).1).trans hgg
theorem OwnV.le (h:OwnV e sz w A c n vs):n≤c∧c≤9223372036854775807:=by
 rcases h.2 with ⟨hv,hn⟩ | ⟨g,cap,cur,hv,hB,hgg,h1,h2,rest⟩
 ·injection hv with _ _ hc
  omega
 ·injection hv with _ _ hc
  unfold maxLen at h2
  omega
theorem OwnV.at_ (h:OwnV e sz w A c n vs) {j:Nat} {v:Value} (hv:vs[j]?=some v):∃ g,A=some ⟨g,0,none⟩∧g<w.heap.size∧w.cell? ⟨g,j,none⟩=some v∧w.frozen? ⟨g,j,none⟩=false:=by
 have hj:j<vs.length:=(List.getElem?_eq_some_iff.1 hv).1
 rcases h.2 with ⟨hx,hn⟩ | ⟨g,cap,cur,hx,hB,hgg,h1,h2,h3,h4⟩
 ·have h1:=h.1
  rw [hn,Nat.zero_mul] at h1
  omega
 ·injection hx with hA _ hc
  have hl:vs.length=n*sz:=h.1
  refine ⟨g,hA,(Array.getElem?_eq_some_iff.1 hgg).1,?_,?_⟩
  ·rw [cell_of_row w g _ cur _ (0,0) hgg,←hv,←h4,List.getElem?_take_of_lt (by omega),Array.getElem?_toList]
  ·simp [World.frozen?,hgg]
theorem OwnV.store {g:Nat} (h:OwnV e 1 w (some ⟨g,0,none⟩) c n vs) {i:Nat} (hi:i<n) (v:Value):OwnV e 1 (w.setCell ⟨g,i,none⟩ v) (some ⟨g,0,none⟩) c n (vs.set i v):=by
 refine ⟨by rw [List.length_set];exact h.1,?_⟩
 rcases h.2 with ⟨hx,hn⟩ | ⟨g',cap,cur,hx,hB,hgg,h1,h2,h3,h4⟩
 ·exact absurd hx (by simp)
 ·injection hx with hA _ hc
  injection hA with hA
  obtain rfl:g=g':=by injection hA
  have hs:=Holds.stored (show Holds w g e cur from hgg) i v
  refine .inr ⟨g,cap,_,by rw [hc],hB,hs,h1,h2,by rw [Array.size_setIfInBounds];exact h3,?_⟩
  rw [Array.toList_setIfInBounds,←h4,List.take_set]
end

/-- An append of one element in a list's order. -/
theorem wpList_pushV {P:Program} (w:World) {ops:Array Oper} {rest:List Oper} {o:Oper} {a:Act} {Q:Exit→Act→World→Prop} (hgd:o.guard=none) (s x:Operand) (t:TypeId)
  (ho:o.op = .call { callee:=.builtin .append,args:=#[s,x],argTypes:=#[t,t] }) (e:TypeId) (z:Value) (sz by_:Nat) (ht:P.underlying t=some (.slice e)) (hi:(P.info? e).map (fun i=>(i.zero,i.size,i.bytes))=some (some z,sz,by_)) (hz:z.cells.size=sz) (hsz0:0<sz) (hby:by_≤100)
  {A:Option Addr} {n c:Nat} {vs:List Value} (hs:a.eval s = .slice A n c) (hw:OwnV e sz w A c n vs)
  {g c2:Nat} {cs:List Value} (hx:a.eval x = .slice (some ⟨g,0,none⟩) 1 c2) (hl:cs.length=sz) (h1:∀ u∈cs,u.oneCell'=true) (hg:Holds w g e cs.toArray) (hn:n≤9000000000000000000∧(n+1)*by_≤140737488355328)
  (hK:∀ g' c' w',OwnV e sz w' (some ⟨g',0,none⟩) c' (n+1) (vs ++ cs)→w.grownBy w' (blockOf A)→(blockOf A=some g'∨g'=w.heap.size)→g' < w'.heap.size→wpList P ops Q rest (a.put o.dst (.slice (some ⟨g',0,none⟩) (n+1) c')) w') :
  wpList P ops Q (o :: rest) a w:=by
 obtain ⟨i,hi',hz',hsize,hbytes⟩:=info_parts hi
 refine wpList_append_lies w hgd s x t ho 0 e i z sz by_ ht hi' hz' hsize hbytes hz hsz0 (.slice A n c) n vs hs hw ⟨g,0,none⟩ 1 c2 cs hx (by omega)
  (fun j u hu=>World.news_of_block (cs:=cs.toArray) hg j u (by simpa using hu)) h1 (by omega) (by unfold maxLen;omega) hn.2 (Nat.zero_le _) w.heap.size rfl ?_
 intro g' cap w' hown' hgr hat hlt
 rw [ownBlock_eq] at hgr hat
 exact hK g' cap w' hown' hgr hat hlt
/-- An append whose run is known. -/
theorem wpList_append_run {P:Program} (w:World) {ops:Array Oper} {rest:List Oper} {o:Oper} {a:Act} {Q:Exit→Act→World→Prop} (hgd:o.guard=none) (s x:Operand) (t:TypeId)
  (ho:o.op = .call { callee:=.builtin .append,args:=#[s,x],argTypes:=#[t,t] }) (hot:o.type=t) (sv xv:Value) (hs:a.eval s=sv) (hx:a.eval x=xv) (v:Value) (w':World) (hrun:(Builtin.append_ #[t,t] t #[sv,xv]).run P w = .ok v w')
  (hK:wpList P ops Q rest (a.put o.dst v) w'):wpList P ops Q (o :: rest) a w:=by
 refine wpList_plain hgd fun K hK'=>?_
 unfold Oper.wp
 simp [execOp,ho,hot,resolve,invoke,builtin,hs,hx,hrun,Result.andThen]
 exact hK' _ _ hK
/-- An append of one element at a step of a region that draws its order. -/
theorem step_pushV {P:Program} (w:World) {ops:Array Oper} {o:Oper} {a:Act} {K:Act→World→Prop} {Q:Exit→Act→World→Prop} {E:Prop} (hgd:o.guard=none) (s x:Operand) (t:TypeId)
  (ho:o.op = .call { callee:=.builtin .append,args:=#[s,x],argTypes:=#[t,t] }) (e:TypeId) (z:Value) (sz by_:Nat) (ht:P.underlying t=some (.slice e)) (hi:(P.info? e).map (fun i=>(i.zero,i.size,i.bytes))=some (some z,sz,by_)) (hz:z.cells.size=sz) (hsz0:0<sz) (hby:by_≤100)
  {A:Option Addr} {n c:Nat} {vs:List Value} (hs:a.eval s = .slice A n c) (hw:OwnV e sz w A c n vs)
  {g c2:Nat} {cs:List Value} (hx:a.eval x = .slice (some ⟨g,0,none⟩) 1 c2) (hl:cs.length=sz) (h1:∀ u∈cs,u.oneCell'=true) (hg:Holds w g e cs.toArray) (hn:n≤9000000000000000000∧(n+1)*by_≤140737488355328)
  (hK:∀ g' c' w',OwnV e sz w' (some ⟨g',0,none⟩) c' (n+1) (vs ++ cs)→w.grownBy w' (blockOf A)→(blockOf A=some g'∨g'=w.heap.size)→g' < w'.heap.size→K (a.put o.dst (.slice (some ⟨g',0,none⟩) (n+1) c')) w') :
  if Region.wanted o (yielded ops a.tmps)=true then Oper.wp P o a w K Q else E:=by
 obtain ⟨i,hi',hz',hsize,hbytes⟩:=info_parts hi
 refine step_append_lies w hgd s x t ho 0 e i z sz by_ ht hi' hz' hsize hbytes hz hsz0 (.slice A n c) n vs hs hw ⟨g,0,none⟩ 1 c2 cs hx (by omega)
  (fun j u hu=>World.news_of_block (cs:=cs.toArray) hg j u (by simpa using hu)) h1 (by omega) (by unfold maxLen;omega) hn.2 (Nat.zero_le _) w.heap.size rfl ?_
 intro g' cap w' hown' hgr hat hlt
 rw [ownBlock_eq] at hgr hat
 exact hK g' cap w' hown' hgr hat hlt

end Go.Proofs.YtcibjcgipfpniaaGreatDoor
namespace Go.Proofs.YtcibjcgipfpniaaGreatDoor
open Go.RowKit
set_option linter.unusedVariables false
set_option linter.unusedSimpArgs false

theorem run_eql_slice_nil {P:Program} (w:World) (t e:TypeId) (a:Option Addr) (l c:Nat) (h:P.underlying t=some (.slice e)):(binOp .eql t (.slice a l c) (.slice none 0 0)).run P w = .ok (.bool a.isNone) w:=by
 simp only [binOp]
 simp [run_equal_slice_nil w t e a l c h]
set_option maxRecDepth 100000 in
set_option maxHeartbeats 4000000 in
theorem clone_any (w:World) (B:Nat) (A:Option Addr) (c n:Nat) (l:List Nat) (hR:Rd .u8 w B A c l) (hn:l.length=n) (hB:B≤w.heap.size) (h12:n≤12000) :
  Calls Tryz.prog 93 #[.slice A n c] w fun e w'=>∃ A' c',e = .returned (.slice A' n c')∧Mine 5 w' w.heap.size A' c' l∧Below w.heap.size w w':=by
 rcases A with _ | a
 ·have hn0:n=0:=by
   rcases Nat.eq_zero_or_pos n with h | h
   ·exact h
   ·obtain ⟨_,_,e,_⟩:=hR.2.2 (by omega)
    cases e
  subst hn0
  obtain rfl:=List.eq_nil_of_length_eq_zero hn
  clear hR
  have hnl:(binOp .eql 24 (.slice none 0 c) (.slice none 0 0)).run Tryz.prog w = .ok (.bool true) w:=run_eql_slice_nil w _ _ none 0 c under22
  go_enter Tryz.func93,Tryz.ntmps93
  go_wp2_with fail
  go_ret
  exact ⟨_,_,rfl,Mine.nil _ _ _,Below.refl _ _⟩
 ·have HM1:Hid (Mine 5 (w.alloc (.cells #[] 5)) w.heap.size (some ⟨w.heap.size,0,none⟩) 0 []):=Lib.hid (Mine.fresh0 w _ (Nat.le_refl _))
  have HQ1:Hid (Below w.heap.size w (w.alloc (.cells #[] 5))):=Lib.hid ((Below.refl _ _).alloc (Nat.le_refl _) _)
  have HR1:Hid (Rd .u8 (w.alloc (.cells #[] 5)) B (some a) c l):=Lib.hid (hR.alloc hB _)
  have HN:=Lib.hid hn
  clear hR hn
  have hnl:(binOp .eql 24 (.slice (some a) n c) (.slice none 0 0)).run Tryz.prog w = .ok (.bool false) w:=run_eql_slice_nil w _ _ (some a) n c under22
  go_enter Tryz.func93,Tryz.ntmps93
  go_wp2_with (first | (refine wpList_mine (B2:=B) _ rfl (.tmp 5) (.tmp 6) 24 rfl 5 Tryz.underlying24 info_u8 rfl HM1.out rfl rfl HR1.out HN.out HQ1.out.size (by omega) ?_;intro A5 c5 W5 hm5 hg5 hat5) | fail)
  have HQ5:Hid (Below w.heap.size w W5):=Lib.hid (HQ1.out.trans (below_blk hg5 HQ1.out.size (fun g hg=>by simp [blk_of] at hg;omega)))
  have HM5:=Lib.hid hm5
  clear hm5 hg5 hat5
  go_wp2_with fail
  go_ret
  exact ⟨_,_,rfl,HM5.out,HQ5.out⟩

mutual
/-- What a window of bytes begins with, so deep, so many things begun before: an error, or a thing, how many bytes it is, how many things are begun. -/
def rd:List Nat→Nat→Nat→Except Nat (Tr×Nat×Nat)
 | [],_,_=>.error 2
 | x :: r,d,c =>
  if tagOk x=false then .error 2 else if 12<d then .error 3 else if 600≤c then .error 4 else
  match lenOf r with
  | none=>.error 2
  | some (k,u) =>
   if parted x=false then .ok (.mk x ((r.drop u).take k) [],1+u+k,c+1)
   else match rds ((r.drop u).take k) (d+1) (c+1) with
    | .error e=>.error e
    | .ok (l,c')=>.ok (.mk x [] l,1+u+k,c')
termination_by b _ _=>(b.length,0)
decreasing_by
 ·apply Prod.Lex.left
  simp
  omega
def rds:List Nat→Nat→Nat→Except Nat (List Tr×Nat)
 | [],_,c=>.ok ([],c)
 | x :: r,d,c =>
  match rd (x :: r) d c with
  | .error e=>.error e
  | .ok (t,n,c')=>match rds (r.drop (n - 1)) d c' with
   | .error e=>.error e
   | .ok (l,c'')=>.ok (t :: l,c'')
termination_by b _ _=>(b.length,1)
decreasing_by
 ·apply Prod.Lex.right
  omega
 ·apply Prod.Lex.left
  simp
  omega
end

/-- A thing that lies from block a on, below block b. -/
def TrIn (w:World) (a b:Nat) (t:Lt):Prop:=∀ w':World,(∀ g,a≤g→g<b→w'.heap[g]?=w.heap[g]?)→TrAt w' b t
theorem TrIn.at_ {w:World} {a b:Nat} {t:Lt} (h:TrIn w a b t):TrAt w b t:=h w fun _ _ _=>rfl
theorem TrIn.keep {w w':World} {a b:Nat} {t:Lt} (h:TrIn w a b t) (hk:∀ g,a≤g→g<b→w'.heap[g]?=w.heap[g]?):TrIn w' a b t :=
 fun w2 h2=>h w2 fun g h3 h4=>(h2 g h3 h4).trans (hk g h3 h4)
/-- Things that lie from block lo on, none in the block of the slice A. -/
def Apart (w:World) (lo:Nat) (A:Option Addr) (l:List Lt):Prop:=∀ t∈l,∃ a b,lo≤a∧b≤w.heap.size∧TrIn w a b t∧∀ g,blockOf A=some g→g<a∨b≤g
theorem Apart.nil (w:World) (lo:Nat) (A:Option Addr):Apart w lo A []:=fun t h=>by cases h
theorem Apart.keep {w w':World} {lo:Nat} {A A':Option Addr} {l:List Lt} (h:Apart w lo A l) (hsz:w.heap.size≤w'.heap.size) (hk:∀ g,lo≤g→g<w.heap.size→blockOf A≠some g→w'.heap[g]?=w.heap[g]?) (hA:∀ g,blockOf A'=some g→blockOf A=some g∨w.heap.size≤g):Apart w' lo A' l:=fun t ht=>by
 obtain ⟨a,b,h1,h2,h3,h4⟩:=h t ht
 refine ⟨a,b,h1,by omega,h3.keep fun g h5 h6=>hk g (by omega) (by omega) (fun e=>by have:=h4 g e;omega),fun g hg=>?_⟩
 rcases hA g hg with h7 | h7
 ·exact h4 g h7
 ·exact .inr (by omega)
theorem Apart.more {w:World} {lo:Nat} {A:Option Addr} {l:List Lt} (h:Apart w lo A l) {t:Lt} {a b:Nat} (ha:lo≤a) (hb:b≤w.heap.size) (ht:TrIn w a b t) (hA:∀ g,blockOf A=some g→g<a∨b≤g):Apart w lo A (l ++ [t]):=fun u hu=>by
 rcases List.mem_append.1 hu with hu | hu
 ·exact h u hu
 ·rw [List.mem_singleton.1 hu]
  exact ⟨a,b,ha,hb,ht,hA⟩

def lcell (t:Lt):List Value:=[.int .u8 (t.tag:Int),.slice t.ba t.body.length t.bc,.slice t.ka t.kids.length t.kc]
theorem lcell_cells (t:Lt):(lcell t).toArray=t.cells:=rfl
theorem info_node:(Tryz.prog.info? 32).map (fun i=>(i.zero,i.size,i.bytes))=some (some (.agg #[.int .u8 0,.slice none 0 0,.slice none 0 0]),3,56):=by kernel_rfl
theorem RowT.of_own {w:World} {A:Option Addr} {c n:Nat} {l:List Lt} (hl:l.length=n) (h:OwnV 32 3 w A c n (l.flatMap lcell)):RowT w w.heap.size A c l:=by
 subst hl
 refine ⟨h.le.1,h.le.2,fun hn=>?_⟩
 have at3:∀ j,j<l.length→∀ t,t<3→∀ v,(lcell (l.getD j default))[t]?=some v→∃ g,A=some ⟨g,0,none⟩∧g<w.heap.size∧w.cell? ⟨g,3*j+t,none⟩=some v:=fun j hj t ht v hv=>by
  have e:l[j]?=some (l.getD j default):=by simp [List.getD,hj]
  have f:=flat_at (f:=lcell) (m:=3) (L:=l) (fun _ _=>rfl) e (j:=t) ht
  obtain ⟨g,hA,hlt,hc,_⟩:=h.at_ (j:=3*j+t) (v:=v) (by rw [f];exact hv)
  exact ⟨g,hA,hlt,hc⟩
 obtain ⟨g,rfl,hlt,_⟩:=at3 0 hn 0 (by omega) _ rfl
 refine ⟨g,0,rfl,hlt,fun j hj=>?_⟩
 have k:∀ t,t<3→∀ v,(lcell (l.getD j default))[t]?=some v→w.cell? ⟨g,3*j+t,none⟩=some v:=fun t ht v hv=>by
  obtain ⟨g',e,_,hc⟩:=at3 j hj t ht v hv
  injection e with e
  obtain rfl:g=g':=by injection e
  exact hc
 exact ⟨by rw [show 0+j*3=3*j+0 by omega];exact k 0 (by omega) _ rfl,by rw [show 0+j*3+1=3*j+1 by omega];exact k 1 (by omega) _ rfl,by rw [show 0+j*3+2=3*j+2 by omega];exact k 2 (by omega) _ rfl⟩
end Go.Proofs.YtcibjcgipfpniaaGreatDoor
