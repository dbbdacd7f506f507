/- Texts of ours, joined. -/
import Derived.Test.YtnijcolomoobnaaGreatDoorU10
import Derived.Test.YtnijcolomoobnaaGreatDoorU08
import Derived.Test.YtnijcolomoobnaaGreatDoorU09
import Derived.Test.YtnijcolomoobnaaGreatDoorU11
set_option linter.unusedVariables false
set_option linter.unusedSimpArgs false
set_option maxRecDepth 100000
set_option maxHeartbeats 16000000
namespace Go.Proofs.YtnijcolomoobnaaGreatDoor
section
open Go.RowKit
attribute [local go_sem ↓] Go.wp_at_zero Go.wp_at_succ
theorem U8(w:World)(x0 x1 x2 x3 x4:Value):∃wz w4,w.alloc (.cells #[iv 0,iv 0,iv 0,iv 0,sZ] 52)=wz∧((((wz.setCell ⟨w.heap.size,0,none⟩ x0).setCell ⟨w.heap.size,1,none⟩ x1).setCell ⟨w.heap.size,2,none⟩ x2).setCell ⟨w.heap.size,3,none⟩ x3).setCell ⟨w.heap.size,4,none⟩ x4=w4∧Below w.heap.size w wz∧Below w.heap.size w w4∧w4.heap.size=w.heap.size+1∧w4.heap[w.heap.size]?=some (.cells #[x0,x1,x2,x3,x4] 52 (0,0))∧wz.heap[w.heap.size]?=some (.cells #[iv 0,iv 0,iv 0,iv 0,sZ] 52 (0,0)):=by
 have hb:Below w.heap.size w (w.alloc (.cells #[iv 0,iv 0,iv 0,iv 0,sZ] 52)):=(Below.refl _ _).alloc (Nat.le_refl _) _;have hz:(w.alloc (.cells #[iv 0,iv 0,iv 0,iv 0,sZ] 52)).heap[w.heap.size]?=some (.cells #[iv 0,iv 0,iv 0,iv 0,sZ] 52 (0,0)):=Ai _ _;refine⟨_,_,rfl,rfl,hb,((((hb.setCell (p:=⟨w.heap.size,0,none⟩) (Nat.le_refl _) x0).setCell (p:=⟨w.heap.size,1,none⟩) (Nat.le_refl _) x1).setCell (p:=⟨w.heap.size,2,none⟩) (Nat.le_refl _) x2).setCell (p:=⟨w.heap.size,3,none⟩) (Nat.le_refl _) x3).setCell (p:=⟨w.heap.size,4,none⟩) (Nat.le_refl _) x4,by simp[World.setCell],?_,hz⟩;generalize w.alloc (.cells #[iv 0,iv 0,iv 0,iv 0,sZ] 52)=wz at *;simp[World.setCell,Array.getElem?_modify,hz]
theorem Nh{B:Nat->Prop}{m:Md}{ac af:Option Addr}{cc cf:Nat}{w:World}(hm:IsMd B w m (.slice ac m.consts.length cc) (.slice af m.funcs.length cf)){states:Int}{n:Nat}{f:Fu}(hf:m.funcs[n]?=some f)(i:In) :
  Calls Tryz.prog 69 #[.agg #[.slice ac m.consts.length cc,.slice af m.funcs.length cf],iv states,iv n,.agg #[iv i.op,iv i.a]] w fun e w'=>e=.returned (.bool (inB m.consts.length states n f i))∧Below w.heap.size w w':=by
 obtain⟨w0,hW0,hb0,hl0,hx0⟩:=Dq w (.slice ac m.consts.length cc) (.slice af m.funcs.length cf) 25;obtain⟨w1,hW1,hb1,hl1,hx1⟩:=Dq w0 (iv i.op) (iv i.a) 48;have hB1:Below w.heap.size w w1:=hb0.trans (hb1.mono (by omega));obtain⟨g,o,ak,ck,rfl,-,hg,p0,p1,p2,p3,p4,hfn⟩:=(hm.fun_.since (Since.of_below hB1)).get hf;obtain⟨wz,w2,hWz,hW2,hbz,hb2,hs2,hx2,hz⟩:=U8 w1 (iv f.params) (iv f.locals) (iv f.zero) (iv f.stack) (.slice ak f.code.length ck);have hB2:Below w.heap.size w w2:=hB1.trans (hb2.mono (by omega));obtain⟨c0,c1,-,-,hlc⟩:=Ae ((hb2.block _ (by omega)).trans hx1);obtain⟨d0,d1,-,-,hld⟩:=Ae ((hb2.block _ (by omega)).trans ((hb1.block _ (by omega)).trans hx0));obtain⟨d0',d1',-,-,hld'⟩:=Ae ((hb1.block _ (by omega)).trans hx0);obtain⟨e0,e1,e2,e3,e4,-,-,-,-,-,hle⟩:=Ak hx2;obtain⟨z0,z1,z2,z3,z4,y0,y1,y2,y3,y4,hlz⟩:=Ak hz;have hnl:=(List.getElem?_eq_some_iff.1 hf).1;have hI:(n:Int)<(m.funcs.length:Int):=by omega
 have h0:(0:Int)<=(n:Int):=by omega
 obtain⟨op,a⟩:=i;obtain⟨r,hr⟩:∃r,Hid (inB m.consts.length states n f ⟨op,a⟩=r):=⟨_,rfl⟩;rw[hr.out];simp only at *;clear hx0 hx1 hx2 hz hl0 hl1 hs2 hm hf hnl hfn;go_enter Tryz.func69,Tryz.ntmps69;go_wp2
 all_goals (try go_ret)
 all_goals (refine⟨?_,hB2⟩;rw[<-hr.out];clear hr c0 c1 d0 d1 d0' d1' e0 e1 e2 e3 e4 z0 z1 z2 z3 z4 y0 y1 y2 y3 y4 p0 p1 p2 p3 p4 hW0 hW1 hWz hW2 hb0 hb1 hbz hb2 hB1 hB2 hlc hld hld' hle hlz hg;unfold inB Bc Bx;simp_all <;> omega)
end
section
open Go.RowKit
theorem Xc{y:List UInt8}{v:V}(h:fitS y v=true):wt v<=16384:=by
 unfold fitS at h;simp at h;exact h.2
end
section
theorem Vl{y:List UInt8}{v:V}(h:fitS y v=true):∃T,tyOf y=some T∧Shp T v:=by
 unfold fitS at h;rw[Bool.and_eq_true] at h;have h1:=h.1;unfold shpS at h1;rcases hT:tyOf y with _ | T
 ·rw[hT] at h1;simp at h1
 ·rw[hT] at h1;exact⟨T,rfl,Bf.1 h1⟩
end
section
open Go.RowKit
attribute [local go_sem ↓] Go.wp_at_zero Go.wp_at_succ
def wn(x lo hi:Int):Bool:=decide (lo<=x) && decide (x<=hi)
theorem Ek{x lo hi:Int}:wn x lo hi=true↔lo<=x∧x<=hi:=by unfold wn;simp
theorem Ci(x lo hi:Int)(w:World):Calls Tryz.prog 118 #[iv x,iv lo,iv hi] w fun e w'=>e=.returned (.bool (wn x lo hi))∧w'=w:=by
 by_cases h1:lo<=x
 ·by_cases h2:x<=hi
  ·have hr:wn x lo hi=true:=by unfold wn;simp[h1,h2]
   rw[hr];go_enter Tryz.func118,Tryz.ntmps118;go_wp2;go_ret;exact⟨by simp[h1,h2],rfl⟩
  ·have hr:wn x lo hi=false:=by unfold wn;simp[h1,h2]
   rw[hr];go_enter Tryz.func118,Tryz.ntmps118;go_wp2;go_ret;exact⟨by simp[h1,h2],rfl⟩
 ·have hr:wn x lo hi=false:=by unfold wn;simp[h1]
  rw[hr];go_enter Tryz.func118,Tryz.ntmps118;go_wp2;go_ret;exact⟨by simp[h1],rfl⟩
theorem Nf(w:World)(x0 x1 x2 x3 x4 x5 x6 x7:Value)(T:TypeId):∃w0,w.alloc (.cells #[x0,x1,x2,x3,x4,x5,x6,x7] T)=w0∧Below w.heap.size w w0∧w0.heap.size=w.heap.size+1∧w0.heap[w.heap.size]?=some (.cells #[x0,x1,x2,x3,x4,x5,x6,x7] T (0,0)):=
 ⟨_,rfl,(Below.refl _ _).alloc (Nat.le_refl _) _,by simp,Ai _ _⟩
theorem Bz{w:World}{g:Nat}{y0 y1 y2 y3 y4 y5 y6 y7:Value}{T:TypeId}(h:w.heap[g]?=some (.cells #[y0,y1,y2,y3,y4,y5,y6,y7] T (0,0))):w.cell? ⟨g,0,none⟩=some y0∧w.cell? ⟨g,1,none⟩=some y1∧w.cell? ⟨g,2,none⟩=some y2∧w.cell? ⟨g,3,none⟩=some y3∧w.cell? ⟨g,4,none⟩=some y4∧w.cell? ⟨g,5,none⟩=some y5∧w.cell? ⟨g,6,none⟩=some y6∧w.cell? ⟨g,7,none⟩=some y7∧g<w.heap.size:=by
 refine⟨?_,?_,?_,?_,?_,?_,?_,?_,(Array.getElem?_eq_some_iff.1 h).1⟩
 all_goals simp[World.cell?,h]
def pshL(op:Int):Int:=if op == 3 || op == 5 || op == 6 || op == 7 || op == 8 || op == 10 || op == 11 then 0 else 1
theorem U7{op:Int}(h1:1<=op)(h2:op<=21):pshL op=psh op:=by
 have:op=1∨op=2∨op=3∨op=4∨op=5∨op=6∨op=7∨op=8∨op=9∨op=10∨op=11∨op=12∨op=13∨op=14∨op=15∨op=16∨op=17∨op=18∨op=19∨op=20∨op=21:=by omega
 rcases this with rfl | rfl | rfl | rfl | rfl | rfl | rfl | rfl | rfl | rfl | rfl | rfl | rfl | rfl | rfl | rfl | rfl | rfl | rfl | rfl | rfl <;> rfl
theorem Ln(op:Int)(w:World):Calls Tryz.prog 149 #[iv op] w fun e w'=>e=.returned (iv (pshL op))∧w'=w:=by
 obtain⟨r,hr⟩:∃r,Hid (pshL op=r):=⟨_,rfl⟩;rw[hr.out];go_enter Tryz.func149,Tryz.ntmps149;go_wp2
 all_goals (try go_ret)
 all_goals (refine⟨?_,rfl⟩;rw[<-hr.out];unfold pshL;simp_all)
theorem Lo{f:Fu}{cd bl:Value}{nc st:Int}{fs:List Fu}{i:In}{w:World}(h9:(i.op == 9)=false):Calls Tryz.prog 148 #[.agg #[iv f.params,iv f.locals,iv f.zero,iv f.stack,cd,iv nc,iv st,bl],.agg #[iv i.op,iv i.a]] w fun e w'=>e=.returned (iv (popN fs i))∧Below w.heap.size w w':=by
 obtain⟨w0,hW0,hb0,hl0,hx0⟩:=Nf w (iv f.params) (iv f.locals) (iv f.zero) (iv f.stack) cd (iv nc) (iv st) bl 131;obtain⟨w1,hW,hb,hl,hx⟩:=Dq w0 (iv i.op) (iv i.a) 48;obtain⟨c0,c1,-,-,hlt⟩:=Ae hx;have hB:Below w.heap.size w w1:=hb0.trans (hb.mono (by omega));obtain⟨r,hr⟩:∃r,Hid (popN fs i=r):=⟨_,rfl⟩;rw[hr.out];obtain⟨op,a⟩:=i;simp only at *;clear hx hl hx0 hl0;go_enter Tryz.func148,Tryz.ntmps148;go_wp2
 all_goals (try go_ret)
 all_goals (refine⟨?_,hB⟩;rw[<-hr.out];unfold popN Eh F0;simp_all)
theorem Ng{B:Nat->Prop}{fs:List Fu}{f0:Fu}{cd:Value}{nc st:Int}{af:Option Addr}{cf:Nat}{i:In}{w:World}{n:Nat}{f:Fu}(hm:B5 B w fs (.slice af fs.length cf))(h9:i.op=9)(hn:i.a=(n:Int))(hf:fs[n]?=some f):Calls Tryz.prog 148 #[.agg #[iv f0.params,iv f0.locals,iv f0.zero,iv f0.stack,cd,iv nc,iv st,.slice af fs.length cf],.agg #[iv i.op,iv i.a]] w fun e w'=>e=.returned (iv (popN fs i))∧Below w.heap.size w w':=by
 obtain⟨w0,hW0,hb0,hl0,hx0⟩:=Nf w (iv f0.params) (iv f0.locals) (iv f0.zero) (iv f0.stack) cd (iv nc) (iv st) (.slice af fs.length cf) 131;obtain⟨w1,hW,hb,hl,hx⟩:=Dq w0 (iv i.op) (iv i.a) 48;obtain⟨c0,c1,-,-,hlt⟩:=Ae hx;obtain⟨-,-,-,-,-,-,-,d7,hlt0⟩:=Bz ((hb.block _ (by omega)).trans hx0);have hB:Below w.heap.size w w1:=hb0.trans (hb.mono (by omega));obtain⟨g,o,ac,cc,rfl,-,hg,e0,-⟩:=(hm.since (Since.of_below hB)).get hf;have hr:popN fs i=f.params:=by
  unfold popN Eh F0;rw[h9,hn];simp[hf]
 rw[hr];have hnl:=(List.getElem?_eq_some_iff.1 hf).1;have hI:(n:Int)<(fs.length:Int):=by omega
 have h0:(0:Int)<=(n:Int):=by omega
 rw[h9] at c0;rw[hn] at c1;rw[h9,hn] at hW;rw[h9,hn];clear hx hl hx0 hl0 hr hf hm hnl h9 hn;go_enter Tryz.func148,Tryz.ntmps148;go_wp2;go_ret;exact⟨rfl,hB⟩
def Ie(nc:Nat)(states:Int)(n:Nat)(f:Fu)(op:Int):Int:=
 if op == 1 then nc - 1 else if op == 2 || op == 3 then f.locals - 1 else if op == 4 || op == 5 then states - 1 else if op == 7 || op == 8 then f.code.length - 1
 else if op == 9 then n - 1 else if op == 11 then 1099511627776 else if op == 12 then 13 else if op == 6 || op == 10 || op == 13 || op == 14 || op == 15 || op == 16 || op == 17 || op == 18 || op == 19 || op == 20 || op == 21 then 0 else -1
theorem W5{nc:Nat}{states:Int}{n:Nat}{f:Fu}{i:In}:wn i.a (Bc i.op) (Ie nc states n f i.op)=inB nc states n f i:=by
 obtain⟨op,a⟩:=i;rw[Bool.eq_iff_iff,Ek];show _↔Do nc states n f ⟨op,a⟩;rw[Au];show Bc op<=a∧a<=Ie nc states n f op↔1<=op∧op<=21∧Bc op<=a∧a<Bx nc states n f op;by_cases h:1<=op∧op<=21
 ·obtain⟨h1,h2⟩:=h;have h3:Ie nc states n f op=Bx nc states n f op - 1:=by
   have:op=1∨op=2∨op=3∨op=4∨op=5∨op=6∨op=7∨op=8∨op=9∨op=10∨op=11∨op=12∨op=13∨op=14∨op=15∨op=16∨op=17∨op=18∨op=19∨op=20∨op=21:=by omega
   unfold Ie Bx;rcases this with rfl | rfl | rfl | rfl | rfl | rfl | rfl | rfl | rfl | rfl | rfl | rfl | rfl | rfl | rfl | rfl | rfl | rfl | rfl | rfl | rfl <;> simp
  rw[h3];omega
 ·have h3:Ie nc states n f op=-1:=by
   unfold Ie
   repeat' split
   all_goals (try simp_all)
   all_goals omega
  have h4:0<=Bc op:=by unfold Bc;split <;> omega
  rw[h3];omega
theorem R3{f:Fu}{ak af:Option Addr}{ck cf nc n:Nat}{states:Int}(hk:f.code.length<=900000)(hl:0<=f.locals∧f.locals<=256)(hnc:nc<=900000)(hn:n<=900000)(hst:0<=states∧states<=32)(op:Int)(w:World):Calls Tryz.prog 145 #[.agg #[iv f.params,iv f.locals,iv f.zero,iv f.stack,.slice ak f.code.length ck,iv nc,iv states,.slice af n cf],iv op] w fun e w'=>e=.returned (.tuple #[iv (Bc op),iv (Ie nc states n f op)])∧Below w.heap.size w w':=by
 obtain⟨w0,hW0,hb0,hl0,hx0⟩:=Nf w (iv f.params) (iv f.locals) (iv f.zero) (iv f.stack) (.slice ak f.code.length ck) (iv nc) (iv states) (.slice af n cf) 131;obtain⟨d0,d1,d2,d3,d4,d5,d6,d7,hlt0⟩:=Bz hx0;obtain⟨r1,hr1⟩:∃r,Hid (Bc op=r):=⟨_,rfl⟩;obtain⟨r2,hr2⟩:∃r,Hid (Ie nc states n f op=r):=⟨_,rfl⟩;rw[hr1.out,hr2.out];obtain⟨l1,l2⟩:=hl;obtain⟨s1,s2⟩:=hst;clear hx0 hl0 d0 d2 d3;go_enter Tryz.func145,Tryz.ntmps145;go_wp2
 all_goals (try go_region_held3 (fun w'=>w'.cell? ⟨w.heap.size,1,none⟩=some (iv f.locals)∧w'.cell? ⟨w.heap.size,4,none⟩=some (.slice ak f.code.length ck)∧w'.cell? ⟨w.heap.size,5,none⟩=some (iv nc)∧w'.cell? ⟨w.heap.size,6,none⟩=some (iv states)∧w'.cell? ⟨w.heap.size,7,none⟩=some (.slice af n cf)) (go_keep) (fail))
 all_goals (try go_wp2)
 all_goals (try go_ret2)
 all_goals (refine⟨?_,by first | exact hb0 | exact hb0.drew⟩;rw[<-hr1.out,<-hr2.out];clear hr1 hr2 hW0 hb0 d1 d4 d5 d6 d7;unfold Bc Ie;simp_all <;> (rw[IntKind.wrap_i64];omega))
theorem C9(x:Int):IntKind.i64.wrap x=wr64 x:=by rw[IntKind.wrap_i64];unfold wr64;omega
theorem Qg(n:Int)(b:Bool)(w:World):Calls Tryz.prog 127 #[iv n,.bool b] w fun e w'=>e=.returned (.tuple #[iv (if b then n else 0),iv (if b then 0 else 50)])∧w'=w:=by
 cases b with
 | true=>
  go_enter Tryz.func127,Tryz.ntmps127;go_wp2
  go_ret2
  exact⟨rfl,rfl⟩
 | false=>
  go_enter Tryz.func127,Tryz.ntmps127;go_wp2
  go_ret2
  exact⟨rfl,rfl⟩
def G8(x:Int × Int)(w:World)(e:Ending)(w':World):Prop:=e=.returned (.tuple #[iv x.1,iv x.2])∧w'=w
theorem D9{n x:Int}{b:Bool}(hb:b=true↔InR x)(hn:InR x->n=x)(w:World):Calls Tryz.prog 127 #[iv n,.bool b] w fun e w'=>G8 (exR x) w e w':=by
 refine (Qg n b w).mono fun e w' h=>?_
 cases b with
 | true=>
  have hx:=hb.1 rfl;rw[B6 hx];exact⟨by rw[h.1,hn hx];rfl,h.2⟩
 | false=>
  have hx:¬InR x:=fun h=>by have:=hb.2 h;cases this
  rw[B8 hx];exact⟨by rw[h.1];rfl,h.2⟩
theorem E6{n:Int}(hn:InR n)(w:World):Calls Tryz.prog 86 #[iv n] w fun e w'=>G8 (exR (-n)) w e w':=by
 have hw:=C9 (-n);have hE:∀b,(b=true↔InR (-n))->Calls Tryz.prog 127 #[iv (wr64 (-n)),.bool b] w fun e w'=>G8 (exR (-n)) w e w':=fun b hb=>D9 hb (fun h=>wr64_in h) w
 by_cases hm:n=-9223372036854775808
 ·have h1:=hE false ⟨fun h=>(by cases h),fun h=>(by unfold InR at h;omega)⟩;have hb:(n != -9223372036854775808)=false:=by simp[hm]
  clear hE hm;generalize wr64 (-n)=z at *;generalize exR (-n)=X at *;go_enter Tryz.func86,Tryz.ntmps86;go_wp2_with fail;refine h1.mono ?_;rintro e w1 ⟨rfl,rfl⟩;clear h1;go_wp2
  go_ret2
  exact⟨rfl,rfl⟩
 ·have h1:=hE true ⟨fun _=>(by unfold InR at *;omega),fun _=>rfl⟩;have hb:(n != -9223372036854775808)=true:=by simpa using hm
  clear hE hm;generalize wr64 (-n)=z at *;generalize exR (-n)=X at *;go_enter Tryz.func86,Tryz.ntmps86;go_wp2_with fail;refine h1.mono ?_;rintro e w1 ⟨rfl,rfl⟩;clear h1;go_wp2
  go_ret2
  exact⟨rfl,rfl⟩
theorem Me{a b:Int}(ha:InR a)(hb:InR b)(w:World):Calls Tryz.prog 151 #[iv a,iv b] w fun e w'=>G8 (exR (a*b)) w e w':=by
 by_cases h1:a=-1
 ·have hN:=E6 hb w;have e:a*b=-b:=by rw[h1];omega
  rw[e];have hab:(a == -1)=true:=by simp[h1]
  clear h1 e;generalize exR (-b)=X at *;go_enter Tryz.func151,Tryz.ntmps151;go_wp2_with fail;refine hN.mono ?_;rintro e w1 ⟨rfl,rfl⟩;clear hN;go_wp2
  go_ret2
  exact⟨rfl,rfl⟩
 have hab:(a == -1)=false:=by simpa using h1
 have hw:=C9 (a*b);by_cases h0:a=0
 ·have hE:=D9 (n:=wr64 (a*b)) (x:=a*b) (b:=true) ⟨fun _=>(by rw[h0];unfold InR;omega),fun _=>rfl⟩ (fun h=>wr64_in h) w;have hz:(a == 0)=true:=by simp[h0]
  clear h0 h1;generalize wr64 (a*b)=z at *;generalize exR (a*b)=X at *;go_enter Tryz.func151,Tryz.ntmps151;go_wp2_with fail;refine hE.mono ?_;rintro e w1 ⟨rfl,rfl⟩;clear hE;go_wp2
  go_ret2
  exact⟨rfl,rfl⟩
 have hz:(a == 0)=false:=by simpa using h0
 have hE:=D9 (n:=wr64 (a*b)) (x:=a*b) (b:=(wr64 (a*b)).tdiv a == b) (by rw[beq_iff_eq];exact Sz ha hb h0 h1) (fun h=>wr64_in h) w;have hzr:=Sw (a*b);have hq:InR ((wr64 (a*b)).tdiv a):=by
  have h5:((wr64 (a*b)).tdiv a).natAbs<=(wr64 (a*b)).natAbs:=Int.natAbs_tdiv_le_natAbs _ _;generalize wr64 (a*b)=z at *;by_cases hz9:z=-9223372036854775808
  ·by_cases hq9:z.tdiv a=9223372036854775808
   ·exfalso;have h6:=Int.mul_tdiv_add_tmod z a;rw[hq9] at h6;have h7:(z.tmod a).natAbs<a.natAbs:=by rw[Int.natAbs_tmod];exact Nat.mod_lt _ (Int.natAbs_pos.2 h0)
    generalize z.tmod a=r at *;omega
   ·unfold InR;omega
  ·unfold InR at *;omega
 have hwq:IntKind.i64.wrap ((wr64 (a*b)).tdiv a)=(wr64 (a*b)).tdiv a:=by rw[C9];exact wr64_in hq
 clear hq;generalize wr64 (a*b)=z at *;generalize exR (a*b)=X at *;go_enter Tryz.func151,Tryz.ntmps151;go_wp2_with fail;refine hE.mono ?_;rintro e w1 ⟨rfl,rfl⟩;clear hE;go_wp2
 go_ret2
 exact⟨rfl,rfl⟩
theorem Kw{a b:Int}(ha:InR a)(hb:InR b)(w:World):Calls Tryz.prog 152 #[iv a,iv b] w fun e w'=>G8 (if b=0 then (0,51) else exR (a.tdiv b)) w e w':=by
 by_cases h0:b=0
 ·rw[if_pos h0];have hz:(b == 0)=true:=by simp[h0]
  clear h0;go_enter Tryz.func152,Tryz.ntmps152;go_wp2
  go_ret2
  exact⟨rfl,rfl⟩
 rw[if_neg h0];have hz:(b == 0)=false:=by simpa using h0
 by_cases h1:b=-1
 ·have hN:=E6 ha w;have e:a.tdiv b=-a:=by rw[h1,Int.tdiv_neg,Int.tdiv_one]
  rw[e];have hm:(b == -1)=true:=by simp[h1]
  clear h0 h1 e;generalize exR (-a)=X at *;go_enter Tryz.func152,Tryz.ntmps152;go_wp2_with fail;refine hN.mono ?_;rintro e w1 ⟨rfl,rfl⟩;clear hN;go_wp2
  go_ret2
  exact⟨rfl,rfl⟩
 have hm:(b == -1)=false:=by simpa using h1
 have hq:InR (a.tdiv b):=by
  have h5:(a.tdiv b).natAbs<=a.natAbs:=Int.natAbs_tdiv_le_natAbs _ _;by_cases hz9:a=-9223372036854775808
  ·by_cases hq9:a.tdiv b=9223372036854775808
   ·exfalso;have h6:=Int.mul_tdiv_add_tmod a b;rw[hq9] at h6;have h7:(a.tmod b).natAbs<b.natAbs:=by rw[Int.natAbs_tmod];exact Nat.mod_lt _ (Int.natAbs_pos.2 h0)
    generalize a.tmod b=r at *;omega
   ·unfold InR;omega
  ·unfold InR at *;omega
 rw[B6 hq];have hwq:IntKind.i64.wrap (a.tdiv b)=a.tdiv b:=by rw[C9];exact wr64_in hq
 clear hq;go_enter Tryz.func152,Tryz.ntmps152;go_wp2
 go_ret2
 exact⟨rfl,rfl⟩
theorem Kx{op a b:Int}(ha:InR a)(hb:InR b)(w:World):Calls Tryz.prog 125 #[iv op,iv a,iv b] w fun e w'=>G8 (arZ op a b) w e w':=by
 unfold arZ;by_cases c9:op=9
 ·rw[if_pos c9];have hE:=D9 (n:=wr64 (a+b)) (x:=a+b) (b:=decide (wr64 (a+b)<a) == decide (b<0)) (Sx ha hb) (fun h=>wr64_in h) w;have hw:=C9 (a+b);generalize wr64 (a+b)=z at *;generalize exR (a+b)=X at *;subst c9;go_enter Tryz.func125,Tryz.ntmps125;go_wp2_with fail;refine hE.mono ?_;rintro e w1 ⟨rfl,rfl⟩;clear hE;go_wp2
  go_ret2
  exact⟨rfl,rfl⟩
 rw[if_neg c9];have n9:(op == 9)=false:=by simpa using c9
 by_cases c10:op=10
 ·rw[if_pos c10];have hE:=D9 (n:=wr64 (a - b)) (x:=a - b) (b:=decide (wr64 (a - b) > a) == decide (b<0)) (Sy ha hb) (fun h=>wr64_in h) w;have hw:=C9 (a - b);generalize wr64 (a - b)=z at *;generalize exR (a - b)=X at *;subst c10;go_enter Tryz.func125,Tryz.ntmps125;go_wp2_with fail;refine hE.mono ?_;rintro e w1 ⟨rfl,rfl⟩;clear hE;go_wp2
  go_ret2
  exact⟨rfl,rfl⟩
 rw[if_neg c10];have n10:(op == 10)=false:=by simpa using c10
 by_cases c11:op=11
 ·rw[if_pos c11];have hE:=Me ha hb w;generalize exR (a*b)=X at *;subst c11;go_enter Tryz.func125,Tryz.ntmps125;go_wp2_with fail;refine hE.mono ?_;rintro e w1 ⟨rfl,rfl⟩;clear hE;go_wp2
  go_ret2
  exact⟨rfl,rfl⟩
 rw[if_neg c11];have n11:(op == 11)=false:=by simpa using c11
 by_cases c12:op=12
 ·rw[if_pos c12];have hE:=Kw ha hb w;generalize (if b=0 then ((0,51):Int × Int) else exR (a.tdiv b))=X at *;subst c12;go_enter Tryz.func125,Tryz.ntmps125;go_wp2_with fail;refine hE.mono ?_;rintro e w1 ⟨rfl,rfl⟩;clear hE;go_wp2
  go_ret2
  exact⟨rfl,rfl⟩
 rw[if_neg c12];have n12:(op == 12)=false:=by simpa using c12
 by_cases c13:op=13
 ·rw[if_pos c13];subst c13;by_cases h0:b=0
  ·rw[if_pos h0];have hz:(b == 0)=true:=by simp[h0]
   clear h0;go_enter Tryz.func125,Tryz.ntmps125;go_wp2
   go_ret2
   exact⟨rfl,rfl⟩
  ·rw[if_neg h0];have hz:(b == 0)=false:=by simpa using h0
   have hq:InR (a.tmod b):=by
    have h7:(a.tmod b).natAbs<b.natAbs:=by rw[Int.natAbs_tmod];exact Nat.mod_lt _ (Int.natAbs_pos.2 h0)
    unfold InR at *;omega
   have hwq:IntKind.i64.wrap (a.tmod b)=a.tmod b:=by rw[C9];exact wr64_in hq
   clear hq;go_enter Tryz.func125,Tryz.ntmps125;go_wp2
   go_ret2
   exact⟨rfl,rfl⟩
 rw[if_neg c13];have n13:(op == 13)=false:=by simpa using c13
 clear c9 c10 c11 c12 c13;go_enter Tryz.func125,Tryz.ntmps125;go_wp2
 go_ret2
 exact⟨rfl,rfl⟩
def Bg(x:V × Int)(w:World)(e:Ending)(w':World):Prop:=e=.returned (.tuple #[.agg #[iv x.1.k,iv x.1.n,.string ⟨x.1.t.toArray⟩,sZ],iv x.2])∧Below w.heap.size w w'
theorem Cq{w wq:World}{y0 y1 y2 y3:Value}{T:TypeId}{g:Nat}(hx:wq.heap[g]?=some (.cells #[y0,y1,y2,y3] T (0,0)))(hg:w.heap.size<=g)(hb:Below w.heap.size w wq)(x0 x1 x2 x3:Value):∃wN,(((wq.setCell ⟨g,0,none⟩ x0).setCell ⟨g,1,none⟩ x1).setCell ⟨g,2,none⟩ x2).setCell ⟨g,3,none⟩ x3=wN∧wN.heap[g]?=some (.cells #[x0,x1,x2,x3] T (0,0))∧Below w.heap.size w wN:=
 ⟨_,rfl,by simp[World.setCell,Array.getElem?_modify,hx],(((hb.setCell (p:=⟨g,0,none⟩) hg x0).setCell (p:=⟨g,1,none⟩) hg x1).setCell (p:=⟨g,2,none⟩) hg x2).setCell (p:=⟨g,3,none⟩) hg x3⟩
theorem Co(w:World):∃w0,w.alloc (.cells #[iv 0,iv 0,.string ⟨#[]⟩,sZ] 31)=w0∧Below w.heap.size w w0∧w.heap.size<w0.heap.size∧w0.heap[w.heap.size]?=some (.cells #[iv 0,iv 0,.string ⟨#[]⟩,sZ] 31 (0,0)):=
 ⟨_,rfl,(Below.refl _ _).alloc (Nat.le_refl _) _,by simp,Ai _ _⟩
def numV(x:Int × Int):V × Int:=if x.2=0 then (nV x.1,0) else (zV,x.2)
theorem Mf(n e:Int)(w:World):Calls Tryz.prog 85 #[iv n,iv e] w fun r w'=>Bg (numV (n,e)) w r w':=by
 obtain⟨w0,hW0,hb0,hl0,hx0⟩:=Co w;obtain⟨s0,s1,s2,s3,t0,t1,t2,t3⟩:=Aa hx0;by_cases he:e=0
 ·have hv:numV (n,e)=(nV n,0):=by unfold numV;rw[if_pos he]
  rw[hv];have heb:(e != 0)=false:=by simp[he]
  have hI:=Ki n w0;clear he hv;go_enter Tryz.func85,Tryz.ntmps85;go_wp2_with fail;refine hI.mono ?_;rintro r w1 ⟨rfl,hb1⟩;have hx1:=(hb1.block _ hl0).trans hx0;obtain⟨s0,s1,s2,s3,t0,t1,t2,t3⟩:=Aa hx1;obtain⟨wN,hWN,hxN,hbN⟩:=Cq hx1 (Nat.le_refl _) (hb0.trans (hb1.mono hb0.size)) (iv 1) (iv n) (.string ⟨#[]⟩) sZ;obtain⟨m0,m1,m2,m3,-⟩:=Aa hxN;have hlN:w.heap.size<wN.heap.size:=(Array.getElem?_eq_some_iff.1 hxN).1;have hl1:w.heap.size<w1.heap.size:=(Array.getElem?_eq_some_iff.1 hx1).1;clear hI hx0 hx1 hxN hW0 hb1;go_wp2_with fail;exact bodyPost_ret (v:=.tuple #[.agg #[iv 1,iv n,.string ⟨#[]⟩,sZ],iv 0]) (by simp[results,Tryz.results85,go_sem,hlN,m0,m1,m2,m3]) rfl ⟨rfl,hbN⟩
 ·have hv:numV (n,e)=(zV,e):=by unfold numV;rw[if_neg he]
  rw[hv];have heb:(e != 0)=true:=by simpa using he
  obtain⟨wN,hWN,hxN,hbN⟩:=Cq hx0 (Nat.le_refl _) hb0 (iv 0) (iv 0) (.string ⟨#[]⟩) sZ;obtain⟨m0,m1,m2,m3,-⟩:=Aa hxN;have hlN:w.heap.size<wN.heap.size:=(Array.getElem?_eq_some_iff.1 hxN).1;clear he hv hx0 hxN;go_enter Tryz.func85,Tryz.ntmps85;go_wp2_with fail;exact bodyPost_ret (v:=.tuple #[.agg #[iv 0,iv 0,.string ⟨#[]⟩,sZ],iv e]) (by simp[results,Tryz.results85,go_sem,hlN,m0,m1,m2,m3]) rfl ⟨rfl,hbN⟩
theorem Mg(op c:Int)(w:World):Calls Tryz.prog 124 #[iv op,iv c] w fun r w'=>r=.returned (.bool (ordB op c))∧w'=w:=by
 obtain⟨r,hr⟩:∃r,Hid (ordB op c=r):=⟨_,rfl⟩;rw[hr.out];go_enter Tryz.func124,Tryz.ntmps124;go_wp2
 all_goals (try go_ret)
 all_goals (refine⟨?_,rfl⟩;rw[<-hr.out];unfold ordB;simp_all)
theorem Vr{v:V}{sl:Value}(hn:InR v.n)(w:World):Calls Tryz.prog 54 #[.agg #[iv v.k,iv v.n,bz v.t,sl]] w fun r w'=>Bg (negV v) w r w':=by
 obtain⟨wa,hWa,hba,hsa,d0,d1,d2,d3⟩:=Aw w v sl;obtain⟨w0,hW0,hb0,hl0,hx0⟩:=Co wa;have hgb:w.heap.size<wa.heap.size:=by omega
 have hB0:Below w.heap.size w w0:=hba.trans (hb0.mono hba.size);have e0:=((Ag hb0).1 _ 0 hgb).trans d0;have e1:=((Ag hb0).1 _ 1 hgb).trans d1;have hgb0:w.heap.size<w0.heap.size:=by omega
 by_cases hk:v.k=1
 ·have hN:=E6 hn w0;have hv:negV v=numV (exR (-v.n)):=by unfold negV numV;rw[if_pos hk]
  rw[hv];have hkb:(v.k != 1)=false:=by simp[hk]
  have hx:∀w',Calls Tryz.prog 85 #[iv (exR (-v.n)).1,iv (exR (-v.n)).2] w' fun r w''=>Bg (numV (exR (-v.n))) w' r w'':=fun w'=>Mf _ _ w'
  clear hk hv hsa;generalize exR (-v.n)=X at *;obtain⟨Y,hY⟩:∃Y,Hid (numV X=Y):=⟨_,rfl⟩;rw[hY.out] at hx ⊢;go_enter Tryz.func54,Tryz.ntmps54;go_wp2_with fail;refine hN.mono ?_;rintro r w1 ⟨rfl,hw1⟩;obtain rfl:=hw1.symm;clear hN;go_wp2_with fail;refine (hx w0).mono ?_;rintro r w2 ⟨rfl,hb2⟩;have hx2:=(hb2.block _ hl0).trans hx0;obtain⟨s0,s1,s2,s3,t0,t1,t2,t3⟩:=Aa hx2;obtain⟨wN,hWN,hxN,hbN⟩:=Cq hx2 (by omega) (hB0.trans (hb2.mono hB0.size)) (iv Y.1.k) (iv Y.1.n) (.string ⟨Y.1.t.toArray⟩) sZ;obtain⟨m0,m1,m2,m3,-⟩:=Aa hxN;have hlN:wa.heap.size<wN.heap.size:=(Array.getElem?_eq_some_iff.1 hxN).1;have hl2:wa.heap.size<w2.heap.size:=(Array.getElem?_eq_some_iff.1 hx2).1;clear hx hx0 hx2 hxN hWa hW0 hb2 d0 d1 d2 d3 e0 e1;go_wp2_with fail;exact bodyPost_ret (v:=.tuple #[.agg #[iv Y.1.k,iv Y.1.n,.string ⟨Y.1.t.toArray⟩,sZ],iv Y.2]) (by simp[results,Tryz.results54,go_sem,hlN,m0,m1,m2,m3]) rfl ⟨rfl,hbN⟩
 ·have hv:negV v=(zV,40):=by unfold negV;rw[if_neg hk]
  rw[hv];have hkb:(v.k != 1)=true:=by simpa using hk
  obtain⟨s0,s1,s2,s3,t0,t1,t2,t3⟩:=Aa hx0;obtain⟨wN,hWN,hxN,hbN⟩:=Cq hx0 (by omega) hB0 (iv 0) (iv 0) (.string ⟨#[]⟩) sZ;obtain⟨m0,m1,m2,m3,-⟩:=Aa hxN;have hlN:wa.heap.size<wN.heap.size:=(Array.getElem?_eq_some_iff.1 hxN).1;clear hk hv hx0 hxN hsa;go_enter Tryz.func54,Tryz.ntmps54;go_wp2_with fail;exact bodyPost_ret (v:=.tuple #[.agg #[iv 0,iv 0,.string ⟨#[]⟩,sZ],iv 40]) (by simp[results,Tryz.results54,go_sem,hlN,m0,m1,m2,m3]) rfl ⟨rfl,hbN⟩
def strV(l:List UInt8)(v:V):V × Int:=if v.k=1 then (tV l,0) else (zV,40)
theorem Xf{v:V}{sl:Value}{l:List UInt8}{w:World}(hl:l.length<=281474976710656)
  (hI:∀w',Below w.heap.size w w'->Calls Tryz.prog 91 #[iv v.n] w' fun r w''=>r=.returned (.string ⟨l.toArray⟩)∧Below w'.heap.size w' w''):Calls Tryz.prog 57 #[.agg #[iv v.k,iv v.n,bz v.t,sl]] w fun r w'=>Bg (strV l v) w r w':=by
 obtain⟨wa,hWa,hba,hsa,d0,d1,d2,d3⟩:=Aw w v sl;obtain⟨w0,hW0,hb0,hl0,hx0⟩:=Co wa;have hgb:w.heap.size<wa.heap.size:=by omega
 have hB0:Below w.heap.size w w0:=hba.trans (hb0.mono hba.size);have e0:=((Ag hb0).1 _ 0 hgb).trans d0;have e1:=((Ag hb0).1 _ 1 hgb).trans d1;have hgb0:w.heap.size<w0.heap.size:=by omega
 by_cases hk:v.k=1
 ·have hN:=hI w0 hB0;have hv:strV l v=(tV l,0):=by unfold strV;rw[if_pos hk]
  rw[hv];have hkb:(v.k != 1)=false:=by simp[hk]
  have hT:=fun w=>Ls l hl w
  clear hk hv hsa hI;go_enter Tryz.func57,Tryz.ntmps57;go_wp2_with fail;refine hN.mono ?_;rintro r w1 ⟨rfl,hb1⟩;clear hN;go_wp2_with fail;refine (hT w1).mono ?_;rintro r w2 ⟨rfl,hb2'⟩;have hb2:Below w0.heap.size w0 w2:=hb1.trans (hb2'.mono hb1.size);have hx2:=(hb2.block _ hl0).trans hx0;obtain⟨s0,s1,s2,s3,t0,t1,t2,t3⟩:=Aa hx2;obtain⟨wN,hWN,hxN,hbN⟩:=Cq hx2 (by omega) (hB0.trans (hb2.mono hB0.size)) (iv 3) (iv 0) (.string ⟨l.toArray⟩) sZ;obtain⟨m0,m1,m2,m3,-⟩:=Aa hxN;have hlN:wa.heap.size<wN.heap.size:=(Array.getElem?_eq_some_iff.1 hxN).1;have hl2:wa.heap.size<w2.heap.size:=(Array.getElem?_eq_some_iff.1 hx2).1;clear hT hx0 hx2 hxN hWa hW0 hb1 hb2 hb2' d0 d1 d2 d3 e0 e1;go_wp2_with fail;exact bodyPost_ret (v:=.tuple #[.agg #[iv 3,iv 0,.string ⟨l.toArray⟩,sZ],iv 0]) (by simp[results,Tryz.results57,go_sem,hlN,m0,m1,m2,m3]) rfl ⟨rfl,hbN⟩
 ·have hv:strV l v=(zV,40):=by unfold strV;rw[if_neg hk]
  rw[hv];have hkb:(v.k != 1)=true:=by simpa using hk
  obtain⟨s0,s1,s2,s3,t0,t1,t2,t3⟩:=Aa hx0;obtain⟨wN,hWN,hxN,hbN⟩:=Cq hx0 (by omega) hB0 (iv 0) (iv 0) (.string ⟨#[]⟩) sZ;obtain⟨m0,m1,m2,m3,-⟩:=Aa hxN;have hlN:wa.heap.size<wN.heap.size:=(Array.getElem?_eq_some_iff.1 hxN).1;clear hk hv hx0 hxN hsa hI;go_enter Tryz.func57,Tryz.ntmps57;go_wp2_with fail;exact bodyPost_ret (v:=.tuple #[.agg #[iv 0,iv 0,.string ⟨#[]⟩,sZ],iv 40]) (by simp[results,Tryz.results57,go_sem,hlN,m0,m1,m2,m3]) rfl ⟨rfl,hbN⟩
end
end Go.Proofs.YtnijcolomoobnaaGreatDoor
