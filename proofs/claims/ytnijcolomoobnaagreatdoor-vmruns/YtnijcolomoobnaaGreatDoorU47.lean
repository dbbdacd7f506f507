/- Texts of ours, joined. -/
import Derived.Test.YtnijcolomoobnaaGreatDoorU45
import Derived.Test.YtnijcolomoobnaaGreatDoorU46
set_option linter.unusedVariables false
set_option linter.unusedSimpArgs false
set_option maxRecDepth 100000
set_option maxHeartbeats 16000000
namespace Go.Proofs.YtnijcolomoobnaaGreatDoor
section
open Go.RowKit
attribute [local go_sem ↓] Go.wp_at_zero Go.wp_at_succ
theorem Cj.at{w w':World}(h:Cj w.heap.size w)(k:Below w.heap.size w w'):Cj w'.heap.size w':=fun w2 h2=>h w2 (k.trans (h2.mono k.size))
theorem My(w:World)(x0 x1 x2 x3 x4 x5:Value):∃wz wN,w.alloc (.cells #[iv 0,iv 0,.string ⟨#[]⟩,sZ,iv 0,iv 0] 35)=wz∧(((((wz.setCell ⟨w.heap.size,0,none⟩ x0).setCell ⟨w.heap.size,1,none⟩ x1).setCell ⟨w.heap.size,2,none⟩ x2).setCell ⟨w.heap.size,3,none⟩ x3).setCell ⟨w.heap.size,4,none⟩ x4).setCell ⟨w.heap.size,5,none⟩ x5=wN∧wN.heap[w.heap.size]?=some (ouO x0 x1 x2 x3 x4 x5)∧Below w.heap.size w wN∧w.heap.size<wN.heap.size∧wz.heap[w.heap.size]?=some (ouO (iv 0) (iv 0) (.string ⟨#[]⟩) sZ (iv 0) (iv 0)):=by
 obtain⟨wz,hW,hb,hl,hx⟩:=Xv w;obtain⟨wN,e1,e2,e3,e4⟩:=Wd hx (Nat.le_refl _) hb x0 x1 x2 x3 x4 x5;exact⟨wz,wN,hW,e1,e2,e3,by have:=e4.size;omega,hx⟩
theorem Je{l:List In}{a1 a2:Option Addr}{w:World}(hm:IsMd (fun _=>True) w (Ck l) (.slice a1 1 1) (.slice a2 1 1))(hl:l.length<=100)(ht:Cj w.heap.size w):Calls Tryz.prog 11 #[.agg #[.slice a1 1 1,.slice a2 1 1],sZ,iv 0,sZ,iv 9] w (Ef (Ck l) [] 0 [] 9 w):=
 Mw (m:=Ck l) (states:=[]) (args:=[]) (B:=fun _=>True) hm ⟨fun v hv=>by
  simp only[Ck,List.mem_cons,List.not_mem_nil,or_false] at hv;subst hv;simp[wt,wts],by simp[Ck],by simp[Ck],fun f hf=>by
  simp only[Ck,List.mem_cons,List.not_mem_nil,or_false] at hf;subst hf;show l.length<=_;omega⟩ Al.nil Al.nil (fun v hv=>by simp at hv) (fun v hv=>by simp at hv) (by simp) ht
theorem Mz{w:World}(ht:Cj w.heap.size w):Calls Tryz.prog 7 #[] w fun e w'=>e=.returned (.bool true)∧Below w.heap.size w w':=by
 have i0:InR 0:=by constructor <;> decide
 have i1:InR 1:=by constructor <;> decide
 have i7:InR 7:=by constructor <;> decide
 have i10:InR 10:=by constructor <;> decide
 have i14:InR 14:=by constructor <;> decide
 have hB0:Below w.heap.size w w:=Below.refl _ _;have Ht:Hid (Cj w.heap.size w):=ht;clear ht;obtain⟨w11,hW11⟩:∃w',w.alloc (.cells #[iv 1,iv 0,iv 10,iv 0] 48)=w':=⟨_,rfl⟩;have hb11:Below w.heap.size w w11:=by rw[<-hW11];exact (Below.refl _ _).alloc (Nat.le_refl _) _
 have hI1:IsIs (fun _=>True) w11 [⟨1,0⟩,⟨10,0⟩] (sL w.heap.size 0 2 2):=by
  rw[<-hW11];exact Jd (l:=[⟨1,0⟩,⟨10,0⟩]) (by simp[i0,i1,i7,i10,i14]) rfl (by omega)
 have hX1:=E9 rfl hI1;have hB11:Below w.heap.size w w11:=hB0.trans (hb11.mono hB0.size);have hD11:Below w.heap.size w w11:=hb11;clear hI1 hb11;go_enter Tryz.func7,Tryz.ntmps7;go_wp2_with fail;refine hX1.mono ?_;rintro e w12 ⟨⟨a1,a2,rfl,hm⟩,hb⟩;have hB12:Below w.heap.size w w12:=hB11.trans (hb.mono hB11.size);have hD12:Below w.heap.size w w12:=hD11.trans (hb.mono hD11.size);have hR1:=Je hm (by decide) (Ht.out.at hB12);clear hX1 hW11 hm hb;go_wp2_with fail;refine hR1.mono ?_;rintro e w13 ⟨S,v1,e,fl,a',c',av1,cv1,mid,rfl,hIs,-,-,-,-,-,-,hb⟩;have hB13:Below w.heap.size w w13:=hB12.trans (hb.mono hB12.size);have hD13:Below w.heap.size w w13:=hD12.trans (hb.mono hD12.size);obtain⟨rfl,rfl,rfl⟩:=Q3 hIs;obtain⟨wz,w14,hWz,hW14,hx1,hb4,hl1,hz⟩:=My w13 (iv (nV 7).k) (iv (nV 7).n) (.string ⟨(nV 7).t.toArray⟩) (.slice av1 (nV 7).l.length cv1) (iv 0) (iv 9);have hB14:Below w.heap.size w w14:=hB13.trans (hb4.mono hB13.size);have hD14:Below w.heap.size w w14:=hD13.trans (hb4.mono hD13.size);obtain⟨z0,z1,z2,z3,z4,z5,zl⟩:=A0 hz;obtain⟨f0,f1,f2,f3,f4,f5⟩:=fz6 hz;have Hx11:Hid (w14.heap[w13.heap.size]?=some (ouO (iv (nV 7).k) (iv (nV 7).n) (.string ⟨(nV 7).t.toArray⟩) (.slice av1 (nV 7).l.length cv1) (iv 0) (iv 9))):=hx1;clear hR1 hIs hz hb hb4 hx1 hD11 hD12 hD13 hD14;obtain⟨w21,hW21⟩:∃w',w14.alloc (.cells #[iv 7,iv 0] 48)=w':=⟨_,rfl⟩;have hb21:Below w14.heap.size w14 w21:=by rw[<-hW21];exact (Below.refl _ _).alloc (Nat.le_refl _) _
 have hI2:IsIs (fun _=>True) w21 [⟨7,0⟩] (sL w14.heap.size 0 1 1):=by
  rw[<-hW21];exact Jd (l:=[⟨7,0⟩]) (by simp[i0,i1,i7,i10,i14]) rfl (by omega)
 have hX2:=E9 rfl hI2;have hB21:Below w.heap.size w w21:=hB14.trans (hb21.mono hB14.size);have hD21:Below w14.heap.size w14 w21:=hb21;clear hI2 hb21;go_wp2_with fail;clear hWz hW14 z0 z1 z2 z3 z4 z5 zl f0 f1 f2 f3 f4 f5;refine hX2.mono ?_;rintro e w22 ⟨⟨a1,a2,rfl,hm⟩,hb⟩;have hB22:Below w.heap.size w w22:=hB21.trans (hb.mono hB21.size);have hD22:Below w14.heap.size w14 w22:=hD21.trans (hb.mono hD21.size);have hR2:=Je hm (by decide) (Ht.out.at hB22);clear hX2 hW21 hm hb;go_wp2_with fail;refine hR2.mono ?_;rintro e w23 ⟨S,v2,e,fl,a',c',av2,cv2,mid,rfl,hIs,-,-,-,-,-,-,hb⟩;have hB23:Below w.heap.size w w23:=hB22.trans (hb.mono hB22.size);have hD23:Below w14.heap.size w14 w23:=hD22.trans (hb.mono hD22.size);obtain⟨rfl,rfl⟩:=Ua hIs;obtain⟨wz,w24,hWz,hW24,hx2,hb4,hl2,hz⟩:=My w23 (iv v2.k) (iv v2.n) (bz v2.t) (.slice av2 v2.l.length cv2) (iv 54) (iv 0);have hB24:Below w.heap.size w w24:=hB23.trans (hb4.mono hB23.size);have hD24:Below w14.heap.size w14 w24:=hD23.trans (hb4.mono hD23.size);obtain⟨z0,z1,z2,z3,z4,z5,zl⟩:=A0 hz;obtain⟨f0,f1,f2,f3,f4,f5⟩:=fz6 hz;have Hx12:Hid (w24.heap[w13.heap.size]?=some (ouO (iv (nV 7).k) (iv (nV 7).n) (.string ⟨(nV 7).t.toArray⟩) (.slice av1 (nV 7).l.length cv1) (iv 0) (iv 9))):=(hD24.block _ (Array.getElem?_eq_some_iff.1 Hx11.out).1).trans Hx11.out;have Hx22:Hid (w24.heap[w23.heap.size]?=some (ouO (iv v2.k) (iv v2.n) (bz v2.t) (.slice av2 v2.l.length cv2) (iv 54) (iv 0))):=hx2;clear hR2 hIs hz hb hb4 hx2 hD21 hD22 hD23 hD24
 obtain⟨w31,hW31⟩:∃w',w24.alloc (.cells #[iv 1,iv 0,iv 14,iv 0,iv 10,iv 0] 48)=w':=⟨_,rfl⟩;have hb31:Below w24.heap.size w24 w31:=by rw[<-hW31];exact (Below.refl _ _).alloc (Nat.le_refl _) _
 have hI3:IsIs (fun _=>True) w31 [⟨1,0⟩,⟨14,0⟩,⟨10,0⟩] (sL w24.heap.size 0 3 3):=by
  rw[<-hW31];exact Jd (l:=[⟨1,0⟩,⟨14,0⟩,⟨10,0⟩]) (by simp[i0,i1,i7,i10,i14]) rfl (by omega)
 have hX3:=E9 rfl hI3;have hB31:Below w.heap.size w w31:=hB24.trans (hb31.mono hB24.size);have hD31:Below w24.heap.size w24 w31:=hb31;clear hI3 hb31;go_wp2_with fail;clear hWz hW24 z0 z1 z2 z3 z4 z5 zl f0 f1 f2 f3 f4 f5;refine hX3.mono ?_;rintro e w32 ⟨⟨a1,a2,rfl,hm⟩,hb⟩;have hB32:Below w.heap.size w w32:=hB31.trans (hb.mono hB31.size);have hD32:Below w24.heap.size w24 w32:=hD31.trans (hb.mono hD31.size);have hR3:=Je hm (by decide) (Ht.out.at hB32);clear hX3 hW31 hm hb;go_wp2_with fail;refine hR3.mono ?_;rintro e w33 ⟨S,v3,e,fl,a',c',av3,cv3,mid,rfl,hIs,-,-,-,-,-,-,hb⟩;have hB33:Below w.heap.size w w33:=hB32.trans (hb.mono hB32.size);have hD33:Below w24.heap.size w24 w33:=hD32.trans (hb.mono hD32.size);obtain⟨rfl,rfl⟩:=Q4 hIs;obtain⟨wz,w34,hWz,hW34,hx3,hb4,hl3,hz⟩:=My w33 (iv v3.k) (iv v3.n) (bz v3.t) (.slice av3 v3.l.length cv3) (iv 40) (iv 9);have hB34:Below w.heap.size w w34:=hB33.trans (hb4.mono hB33.size);have hD34:Below w24.heap.size w24 w34:=hD33.trans (hb4.mono hD33.size);obtain⟨z0,z1,z2,z3,z4,z5,zl⟩:=A0 hz;obtain⟨f0,f1,f2,f3,f4,f5⟩:=fz6 hz;have Hx13:Hid (w34.heap[w13.heap.size]?=some (ouO (iv (nV 7).k) (iv (nV 7).n) (.string ⟨(nV 7).t.toArray⟩) (.slice av1 (nV 7).l.length cv1) (iv 0) (iv 9))):=(hD34.block _ (Array.getElem?_eq_some_iff.1 Hx12.out).1).trans Hx12.out;have Hx23:Hid (w34.heap[w23.heap.size]?=some (ouO (iv v2.k) (iv v2.n) (bz v2.t) (.slice av2 v2.l.length cv2) (iv 54) (iv 0))):=(hD34.block _ (Array.getElem?_eq_some_iff.1 Hx22.out).1).trans Hx22.out
 have Hx33:Hid (w34.heap[w33.heap.size]?=some (ouO (iv v3.k) (iv v3.n) (bz v3.t) (.slice av3 v3.l.length cv3) (iv 40) (iv 9))):=hx3;obtain⟨q0,q1,q2,q3,q4,q5,ql⟩:=A0 Hx13.out;obtain⟨r0,r1,r2,r3,r4,r5,rl⟩:=A0 Hx23.out;obtain⟨t0,t1,t2,t3,t4,t5,tl⟩:=A0 Hx33.out;have hfin:Hid (Below w.heap.size w w34):=hB34;have hn7:(nV 7).n=7:=rfl;rw[hn7] at q1;clear hn7 hR3 hIs hz hb hb4 hx3 hD31 hD32 hD33 hD34 hB34 hB33 hB32 hB31 hB24 hB23 hB22 hB21 hB14 hB13 hB12 hB11 hB0 Ht i0 i1 i7 i10 i14 hl1 hl2 hl3;go_wp2_with fail;go_ret;exact⟨ret_bool (by simp),hfin.out⟩
end
section
open Go.RowKit
theorem Sm15.fit{m:Md}{states args:List V}(h:Sm15 m states args):Fit m:=
 ⟨fun v hv=>by have:=Dv hv;have:=h.v;omega,by have:=A4 m.consts;have:=h.v;omega,by have:=Pp m.funcs;have:=h.f;omega,fun f hf=>by have:=Pq hf;have:=h.f;omega⟩
theorem Sm15.wc{m:Md}{states args:List V}(h:Sm15 m states args):∀v∈m.consts,wt v<=16384:=fun v hv=>by have:=Dv hv;have:=h.v;omega
theorem Sm15.ws{m:Md}{states args:List V}(h:Sm15 m states args):∀v∈states,wt v<=16384:=fun v hv=>by have:=Dv hv;have:=h.v;omega
theorem Sm15.wa{m:Md}{states args:List V}(h:Sm15 m states args):∀v∈args,wt v<=16384:=fun v hv=>by have:=Dv hv;have:=h.v;omega
theorem Sm15.ls{m:Md}{states args:List V}(h:Sm15 m states args):states.length<=16384:=by have:=A4 states;have:=h.v;omega
theorem Sm15.la{m:Md}{states args:List V}(h:Sm15 m states args):args.length<=16384:=by have:=A4 args;have:=h.v;omega
def up200(x:Int):Int:=if 200<x then 200 else x
theorem Ot(x:Int):∀(ts:Array TypeId) (t:TypeId) (wx:World),(Builtin.min_ ts t #[iv x,iv 200]).run Tryz.prog wx=.ok (iv (up200 x)) wx:=by
 intro ts t wx;rw[run_min_int2];congr 2
theorem W2(w:World)(x0 x1 x2 x3:Value)(T:TypeId):∃w0,w.alloc (.cells #[x0,x1,x2,x3] T)=w0∧Below w.heap.size w w0∧w0.heap.size=w.heap.size+1∧w0.heap[w.heap.size]?=some (.cells #[x0,x1,x2,x3] T (0,0)):=⟨_,rfl,(Below.refl _ _).alloc (Nat.le_refl _) _,by simp,Ai _ _⟩
end
section
open Go.RowKit
attribute [local go_sem ↓] Go.wp_at_zero Go.wp_at_succ
theorem U0{P B:Nat->Prop}{w:World}{sl:Value}{acc l:List V}{a:Option Addr}{c:Nat}(h:Gv P w sl acc)(hx:Al B w l (.slice a l.length c))(hB:∀k,B k->k<w.heap.size->P k∧sl.ownBlock≠some k)(hn:acc.length+l.length<=900000)(hP:∀k,w.heap.size<=k->P k) :
  ∃ao cap w',(Builtin.append_ #[22,22] 22 #[sl,.slice a l.length c]).run Tryz.prog w=.ok (.slice ao (acc.length+l.length) cap) w'∧Gv P w' (.slice ao (acc.length+l.length) cap) (acc ++ l)∧Fr (fun k=>sl.ownBlock≠some k) w w':=by
 obtain⟨row,hown,hPo,hall⟩:=h;obtain⟨nrow,hl,hall2,hnil,hcell⟩:=hx.news;replace hall2:=hall2.base hB;obtain⟨ao,cap,w',hr,ho,hb,hg,hat⟩:=Eo Tryz.underlying22 Dh rfl (by decide) 22 (m:=l.length) (c:=c) (ad:=a) hown hnil hl hcell hall2.ones (by omega) (by decide) (Nat.zero_le _);have hsince:Since (fun k=>P k∧sl.ownBlock≠some k) w w':=⟨hg.size,fun k h1 h2=>hg.block k h2 (fun e=>h1.2 e.symm)⟩;have hown':∀k,(Value.slice ao (acc.length+l.length) cap).ownBlock=some k->sl.ownBlock=some k∨w.heap.size=k:=fun k hk=>by
  rcases hat with e | e
  ·exact Or.inl (e ▸ hk)
  ·rw[e] at hk;exact Or.inr (Option.some.inj hk)
 refine⟨ao,cap,w',hr,⟨row ++ nrow,?_,?_,?_⟩,?_⟩
 ·simpa using ho
 ·intro k hk;rcases hown' k hk with e | e
  ·exact hPo k e
  ·exact hP k (by omega)
 ·refine (((hall.base (B':=fun k=>(P k∧sl.ownBlock≠some k)∧k<w.heap.size) (fun k h1 h2=>⟨h1,h2⟩)).append (hall2.base (fun k h1 h2=>⟨h1,h2⟩))).since ⟨hg.size,fun k h1 h2=>hsince.block k h1.1 h2⟩).base (fun k h1 _=>⟨h1.1.1,fun e=>?_⟩);rcases hown' k e with e | e
  ·exact h1.1.2 e
  ·have:=h1.2;omega
 ·exact⟨hg.os,hg.tape,hg.output,hg.size,fun k h1 h2=>hg.block k h2 (fun e=>h1 e.symm)⟩
theorem vruns_walk{m:Md}{ac af as_ aa:Option Addr}{cc cf cs_ ca:Nat}{states args:List V}{n fuel:Int}{w:World}(hm:IsMd Cr w m (.slice ac m.consts.length cc) (.slice af m.funcs.length cf))(hz:SzM m)(hs:Al Cr w states (.slice as_ states.length cs_))(ha:Al Cr w args (.slice aa args.length ca))(hzs:Ee states)(hza:Ee args)(ht:Cj w.heap.size w)(hn:InR n)(hfu:InR fuel) :
  Calls Tryz.prog 3 #[.agg #[.slice ac m.consts.length cc,.slice af m.funcs.length cf],.agg #[.slice as_ states.length cs_,.slice aa args.length ca,iv n,iv fuel]] w fun e w'=>e=.returned (.bool true)∧Below w.heap.size w w':=by
 obtain⟨w1,hW1,hb1,hs1,hx1⟩:=Dq w (.slice ac m.consts.length cc) (.slice af m.funcs.length cf) 25;obtain⟨w2,hW2,hb2,hs2,hx2⟩:=W2 w1 (.slice as_ states.length cs_) (.slice aa args.length ca) (iv n) (iv fuel) 27;have l01:w.heap.size<w1.heap.size:=by omega
 have l12:w1.heap.size<w2.heap.size:=by omega
 have hB2:Below w.heap.size w w2:=hb1.trans (hb2.mono hb1.size);have hbx:∀wr,Below w2.heap.size w2 wr->wr.heap[w.heap.size]?=some (.cells #[.slice ac m.consts.length cc,.slice af m.funcs.length cf] 25 (0,0))∧wr.heap[w1.heap.size]?=some (.cells #[.slice as_ states.length cs_,.slice aa args.length ca,iv n,iv fuel] 27 (0,0)):=fun wr hb=>⟨(hb.block _ (by omega)).trans ((hb2.block _ l01).trans hx1),(hb.block _ l12).trans hx2⟩
 have hcel:∀wr,Below w2.heap.size w2 wr->wr.cell? ⟨w.heap.size,0,none⟩=some (.slice ac m.consts.length cc)∧wr.cell? ⟨w.heap.size,1,none⟩=some (.slice af m.funcs.length cf)∧wr.cell? ⟨w1.heap.size,0,none⟩=some (.slice as_ states.length cs_)∧wr.cell? ⟨w1.heap.size,1,none⟩=some (.slice aa args.length ca)∧wr.cell? ⟨w1.heap.size,2,none⟩=some (iv n)∧wr.cell? ⟨w1.heap.size,3,none⟩=some (iv fuel)∧w.heap.size<wr.heap.size∧w1.heap.size<wr.heap.size:=fun wr hb=>by
  obtain⟨z0,z1⟩:=hbx wr hb;obtain⟨q0,q1,-,-,q2⟩:=Ae z0;obtain⟨r0,r1,r2,r3,-⟩:=Aa z1;exact⟨q0,q1,r0,r1,r2,r3,q2,(Array.getElem?_eq_some_iff.1 z1).1⟩
 have Hcel:Hid _:=hcel;have HBf:Hid (∀wr,Below w2.heap.size w2 wr->Below w.heap.size w wr):=fun wr hb=>hB2.trans (hb.mono hB2.size)
 have Hm:Hid (IsMd (fun k=>k<w.heap.size) w m (.slice ac m.consts.length cc) (.slice af m.funcs.length cf)):=hm.base (fun k _ h=>h);have Hs:Hid (Al (fun k=>k<w.heap.size) w states (.slice as_ states.length cs_)):=hs.base (fun k _ h=>h);have Ha:Hid (Al (fun k=>k<w.heap.size) w args (.slice aa args.length ca)):=ha.base (fun k _ h=>h);have Ht:Hid (Cj w.heap.size w):=ht;have Hzz:Hid (SzM m∧Ee states∧Ee args):=⟨hz,hzs,hza⟩;have hK:=Mz (ht.at hB2);have hmn:=Ot fuel;have Hfq0:InR (up200 fuel):=by
  unfold InR at hfu ⊢;unfold up200;split <;> omega
 generalize up200 fuel=fq at *;have Hnf:Hid (InR n∧InR fq):=⟨hn,Hfq0⟩;clear Hfq0 hn hfu;clear hm hz hs ha hzs hza ht hbx hcel hx1 hx2 hb1 hb2 hs1 hs2 hB2 l01 l12;go_enter Tryz.func3,Tryz.ntmps3;go_wp2_with fail;refine hK.mono ?_;rintro e w3 ⟨rfl,hb3⟩;obtain⟨k0,k1,k2,k3,k4,k5,k6,k7⟩:=Hcel.out w3 hb3;obtain⟨w4,hW4,hb4,hs4,hx4⟩:=Dq w3 (.slice as_ states.length cs_) (.slice aa args.length ca) 22;have hB4:Below w2.heap.size w2 w4:=hb3.trans (hb4.mono hb3.size);have hL:=M1 (Hm.out.below (HBf.out w4 hB4)) (Hs.out.below (HBf.out w4 hB4)) (Ha.out.below (HBf.out w4 hB4)) hx4 Hzz.out.1 Hzz.out.2.1 Hzz.out.2.2;clear hK hW1 hW2 hb3 hs4 hx4 hb4;go_wp2_with fail;refine hL.mono ?_;rintro e w5 ⟨⟨b,rfl,hb⟩,hb5⟩;have hB5:Below w2.heap.size w2 w5:=hB4.trans (hb5.mono hB4.size);have HL:Hid (b=false->Sm15 m states args):=hb;clear hL hW4 hb hb5 hB4 k0 k1 k2 k3 k4 k5 k6 k7;have hfin5:=HBf.out w5 hB5;cases b with
 | true=>
  clear HL;go_wp2;go_ret;exact⟨rfl,hfin5⟩
 | false=>
 have HS:Hid (Sm15 m states args):=HL.out rfl;clear HL hfin5 Hzz;have hRun:∀(wr:World) (fu:Int),Below w2.heap.size w2 wr->Calls Tryz.prog 11 #[.agg #[.slice ac m.consts.length cc,.slice af m.funcs.length cf],.slice as_ states.length cs_,iv n,.slice aa args.length ca,iv fu] wr (Ef m states n args fu wr):=fun wr fu hb=>Mw (Hm.out.below (HBf.out wr hb)) HS.out.fit (Hs.out.below (HBf.out wr hb)) (Ha.out.below (HBf.out wr hb)) (fun v hv=>by have:=HS.out.ws v hv;omega) (fun v hv=>by have:=HS.out.wa v hv;omega) (by have:=HS.out.ls;omega) (Ht.out.at (HBf.out wr hb))
 have HRun:Hid _:=hRun;clear hRun;obtain⟨k0,k1,k2,k3,k4,k5,k6,k7⟩:=Hcel.out w5 hB5;have hd5:Below w5.heap.size w5 w5.drew:=Af w5 1;have hBs:∀k,w5.drew.heap.size<=k->(k<w.heap.size∨w5.heap.size<=k):=fun k hk=>Or.inr hk
 obtain⟨wa,a6,c6,w6,hWa,hr6,hG6,hb6,ho6⟩:=D8 (B:=fun k=>k<w.heap.size∨w5.heap.size<=k) (((Hs.out.below (HBf.out w5 hB5)).below hd5).base (fun k hk _=>Or.inl hk)) (by have:=HS.out.ls;omega) hBs;have hB56:Below w5.heap.size w5 w6:=hd5.trans (hb6.mono hd5.size);have hw5:=(HBf.out w5 hB5).size;obtain⟨a7,c7,w7,hr7,hG7,hf7⟩:=U0 hG6 ((Ha.out.below (HBf.out w5 hB5)).below hB56) (fun k hk _=>⟨Or.inl hk,fun e=>by have h1:w5.heap.size<=k:=ho6 k e;omega⟩) (by have:=HS.out.ls;have:=HS.out.la;omega) (fun k hk=>Or.inr (by have:=hB56.size;omega));have hB57:Below w5.heap.size w5 w7:=hB56.trans (hf7.below hB56.size (fun k hk e=>by have h1:w5.heap.size<=k:=ho6 k e;omega));have hNl:(states ++ args).length=states.length+args.length:=List.length_append;have HL7:Hid (Al Cr w7 (states ++ args) (.slice a7 (states.length+args.length) c7)):=hG7.vs.base (fun _ _ _=>trivial);have Hwl:Hid (∀v∈states ++ args,wt v<=16384):=fun v hv=>by
  rcases List.mem_append.1 hv with h | h
  ·exact HS.out.ws v h
  ·exact HS.out.wa v h
 obtain⟨L,hL⟩:∃L,states ++ args=L:=⟨_,rfl⟩;obtain⟨N,hN⟩:∃N,states.length+args.length=N:=⟨_,rfl⟩;rw[hL,hN] at HL7 hNl;rw[hL] at Hwl;rw[hN] at hr7;have HN:Hid (L.length=N):=hNl;have hNI:N<=9223372036854775807:=by have:=HS.out.ls;have:=HS.out.la;omega
 have HB7:Hid (Below w2.heap.size w2 w7):=hB5.trans (hB57.mono hB5.size);have hSk:∀wr,Below w5.heap.size w5 wr->wr.cell? ⟨w1.heap.size,0,none⟩=some (.slice as_ states.length cs_)∧wr.cell? ⟨w1.heap.size,1,none⟩=some (.slice aa args.length ca):=fun wr hb=>by
  obtain⟨p0,p1,p2,p3,-⟩:=Hcel.out wr (hB5.trans (hb.mono hB5.size));exact⟨p2,p3⟩
 have hba5:Below w5.heap.size w5 wa:=by rw[<-hWa];exact hd5.alloc (Nat.le_refl _) _
 clear hG6 hG7 hf7 ho6 hBs hNl hL hN hw5 hb6;go_wp2_with fail;refine wpE_begin (S:=fun w'=>w'.cell? ⟨w1.heap.size,0,none⟩=some (.slice as_ states.length cs_)∧w'.cell? ⟨w1.heap.size,1,none⟩=some (.slice aa args.length ca)) (N:=fun j=>decide (j<9)) (by kernel_rfl) ?_;have hS0:w5.drew.cell? ⟨w1.heap.size,0,none⟩=some (.slice as_ states.length cs_)∧w5.drew.cell? ⟨w1.heap.size,1,none⟩=some (.slice aa args.length ca):=hSk _ hd5;refine Ab (some 21) [2,3,6,7] 1 (pt w1.heap.size 0) rfl rfl (by kernel_rfl) (fun _ _ _ h=>h) rfl (by intro w hS;(try dsimp only at hS);go_split_ands;go_simp) hS0 ?_
 try simp only[aP]
 refine Ab (some 22) [3,6,7] 2 (.slice as_ states.length cs_) rfl rfl (by kernel_rfl) (fun _ _ _ h=>h) rfl (by intro w hS;(try dsimp only at hS);go_split_ands;go_simp) hS0 ?_
 try simp only[aP]
 refine Ab (some 24) [5,6,7] 4 (pt w1.heap.size 1) rfl rfl (by kernel_rfl) (fun _ _ _ h=>h) rfl (by intro w hS;(try dsimp only at hS);go_split_ands;go_simp) hS0 ?_
 try simp only[aP]
 refine Ab (some 25) [6,7] 5 (.slice aa args.length ca) rfl rfl (by kernel_rfl) (fun _ _ _ h=>h) rfl (by intro w hS;(try dsimp only at hS);go_split_ands;go_simp) hS0 ?_
 try simp only[aP]
 refine Ah (some 28) (fun j=>[].contains j) (i:=8) (v:=iv 0) rfl rfl (by kernel_rfl) (by kernel_rfl) (by kernel_rfl) (by kernel_rfl) (fun j hj=>by simp at hj) (fun _ _ _ h=>h) rfl (fun w' hS=>by obtain⟨g0,g1⟩:=hS;go_simp) hS0 ?_
 try simp only[aP]
 refine Ac (i:=0) (by kernel_rfl) rfl rfl (fun K hK=>?_);go_simp;refine hK _ _ (fun _=>hSk _ hba5) ?_;clear hK K
 try simp only[aP]
 refine Ac (i:=3) (by kernel_rfl) rfl rfl (fun K hK=>?_);refine Ay _ _ 22 rfl _ _ rfl rfl _ _ hr6 ?_;refine hK _ _ (fun _=>hSk _ hB56) ?_;clear hK K;simp only[Act.put,List.getElem_toArray,List.getElem_cons_succ,List.getElem_cons_zero,List.setIfInBounds_toArray,List.set_cons_zero,List.set_cons_succ];refine Ac (i:=6) (by kernel_rfl) rfl rfl (fun K hK=>?_);refine Ay _ _ 22 rfl _ _ rfl rfl _ _ hr7 ?_;refine hK _ _ (fun _=>hSk _ hB57) ?_;clear hK K;simp only[Act.put,List.getElem_toArray,List.getElem_cons_succ,List.getElem_cons_zero,List.setIfInBounds_toArray,List.set_cons_zero,List.set_cons_succ];refine Ah (some 27) (fun j=>[].contains j) (i:=7) (v:=iv (N:Int)) rfl rfl (by kernel_rfl) (by kernel_rfl) (by kernel_rfl) (by kernel_rfl) (fun j hj=>by simp at hj) (fun _ _ _ h=>h) rfl (fun w' hS=>by obtain⟨g0,g1⟩:=hS;go_simp) (hSk _ hB57) ?_
 try simp only[aP]
 refine Am (by kernel_rfl) ?_;simp only[Exit.then];refine ‹∀(a:Act) (w:World),_->_› _ _ ?_;have hfull:=HL7;clear hSk hba5 hr6 hr7 hWa hB56 hB57 hd5 hS0 k0 k1 k2 k3 k4 k5 k6 k7 hB5;go_wp2_with fail
 go_loopg [28] N (fun g i wr=>∃q:Nat,q<=N∧g=N - q∧i=iv q∧Hid (Below w7.heap.size w7 wr))
 case atStart=>exact⟨0,Nat.zero_le _,rfl,rfl,Below.refl _ _⟩
 case round=>
  obtain⟨q,hq,rfl,rfl,HBr⟩:=hrel;by_cases hlt:q<N
  ·obtain⟨x,hx⟩:∃x,L[q]?=some x:=⟨_,List.getElem?_eq_getElem (show q<L.length by rw[HN.out];exact hlt)⟩;obtain⟨g,o,ax,cx,rfl,_,hg,c0,c1,c2,c3,hwx⟩:=(HL7.out.below HBr.out).get hx;have hwt:=Hwl.out _ (List.mem_of_getElem? hx);clear hx;have hltI:(q:Int)<(N:Int):=by omega
   have hq0:(0:Int)<=(q:Int):=by omega
   obtain⟨wx,hWx,hbx,hsx,hxx⟩:=W2 wr (iv x.k) (iv x.n) (bz x.t) (.slice ax x.l.length cx) 31;have hC1:Calls Tryz.prog 9 #[.agg #[iv x.k,iv x.n,bz x.t,.slice ax x.l.length cx]] wx.drew fun r w'=>r=.returned (.bool (E8 x))∧Below wx.drew.heap.size wx.drew w':=Jc (B:=Cr) (l:=[x]) (fun v hv=>by rw[List.mem_singleton.1 hv];omega) x _ _ (by simp) ((hwx.below hbx).below (Af wx 1))
   have hC2:∀w',Below wx.heap.size wx w'->Calls Tryz.prog 10 #[.agg #[iv x.k,iv x.n,bz x.t,.slice ax x.l.length cx]] w' fun r w''=>r=.returned (.bool (E8 x))∧Below w'.heap.size w' w'':=fun w' h=>by
    refine (Jg (by omega) ((hwx.below hbx).below h)).mono ?_;rintro r w'' ⟨⟨b,rfl,hb⟩,hbl⟩;have e:b=E8 x:=by rw[Bool.eq_iff_iff,hb,Gf]
    exact⟨by rw[e],hbl⟩
   have hSk:∀w',Below wx.heap.size wx w'->w'.cell? ⟨wr.heap.size,0,none⟩=some (iv x.k)∧w'.cell? ⟨wr.heap.size,1,none⟩=some (iv x.n)∧w'.cell? ⟨wr.heap.size,2,none⟩=some (bz x.t)∧w'.cell? ⟨wr.heap.size,3,none⟩=some (.slice ax x.l.length cx):=fun w' h=>by
    obtain⟨u0,u1,u2,u3,-⟩:=Aa ((h.block _ (by omega)).trans hxx);exact⟨u0,u1,u2,u3⟩
   have hla:wr.heap.size<wx.heap.size:=by omega
   have Hbx:Hid (Below wr.heap.size wr wx):=hbx;generalize E8 x=bx at *;have hbb:(bx != bx)=false:=by simp
   clear hbx hsx hxx hwx hwt hq;go_wp2_with fail;refine wpE_begin (S:=fun w'=>w'.cell? ⟨wr.heap.size,0,none⟩=some (iv x.k)∧w'.cell? ⟨wr.heap.size,1,none⟩=some (iv x.n)∧w'.cell? ⟨wr.heap.size,2,none⟩=some (bz x.t)∧w'.cell? ⟨wr.heap.size,3,none⟩=some (.slice ax x.l.length cx)) (N:=fun j=>decide (j<5)) (by kernel_rfl) ?_;have hS0:wx.drew.cell? ⟨wr.heap.size,0,none⟩=some (iv x.k)∧wx.drew.cell? ⟨wr.heap.size,1,none⟩=some (iv x.n)∧wx.drew.cell? ⟨wr.heap.size,2,none⟩=some (bz x.t)∧wx.drew.cell? ⟨wr.heap.size,3,none⟩=some (.slice ax x.l.length cx):=hSk _ (Af wx 1);refine Ab (some 32) [1,3,4] 0 (.agg #[iv x.k,iv x.n,bz x.t,.slice ax x.l.length cx]) rfl rfl (by kernel_rfl) (fun _ _ _ h=>h) rfl (by intro w hS;(try dsimp only at hS);go_split_ands;go_simp) hS0 ?_
   try simp only[aP]
   refine Ab (some 34) [3,4] 2 (.agg #[iv x.k,iv x.n,bz x.t,.slice ax x.l.length cx]) rfl rfl (by kernel_rfl) (fun _ _ _ h=>h) rfl (by intro w hS;(try dsimp only at hS);go_split_ands;go_simp) hS0 ?_
   try simp only[aP]
   refine Ac (i:=1) (by kernel_rfl) rfl rfl (fun K hK=>?_);go_simp;refine hC1.mono ?_;rintro e w8 ⟨rfl,hb8⟩;replace hb8:Below wx.heap.size wx w8:=Ad hb8;clear hC1;refine hK _ _ (fun _=>hSk _ hb8) ?_;clear hK K
   try simp only[aP]
   refine Ac (i:=3) (by kernel_rfl) rfl rfl (fun K hK=>?_);go_simp;refine (hC2 _ hb8).mono ?_;rintro e w9 ⟨rfl,hb9⟩;replace hb9:Below wx.heap.size wx w9:=hb8.trans (hb9.mono hb8.size);clear hb8;refine hK _ _ (fun _=>hSk _ hb9) ?_;clear hK K
   try simp only[aP]
   refine Ah (some 36) (fun j=>[].contains j) (i:=4) (v:=.bool false) rfl rfl (by kernel_rfl) (by kernel_rfl) (by kernel_rfl) (by kernel_rfl) (fun j hj=>by simp at hj) (fun _ _ _ h=>h) rfl (fun w' hS=>by obtain⟨g0,g1,g2,g3⟩:=hS;go_simp) (hSk _ hb9) ?_
   try simp only[aP]
   refine Am (by kernel_rfl) ?_;simp only[Exit.then];refine ‹∀(a:Act) (w:World),_->_› _ _ ?_;have HB9:Hid (Below w7.heap.size w7 w9):=HBr.out.trans ((Hbx.out.trans (hb9.mono Hbx.out.size)).mono HBr.out.size);clear hb9 c0 c1 c2 c3 hWx hSk hla hS0 hbb hC2;go_wp2_with fail;go_roundg (N - (q+1))
   case measure=>omega
   case rel=>exact⟨q+1,by omega,rfl,by go_num,HB9⟩
  ·have hltI:¬(q:Int)<(N:Int):=by omega
   have hB9:Below w2.heap.size w2 wr:=HB7.out.trans (HBr.out.mono HB7.out.size);have hR:=HRun.out wr fq hB9;obtain⟨k0,k1,k2,k3,k4,k5,k6,k7⟩:=Hcel.out wr hB9;have HB9:Hid (Below w2.heap.size w2 wr):=hB9;clear hB9 HBr HB7 HL7 Hwl HN hfull;go_wp2_with fail;refine hR.mono ?_;rintro e w10 ⟨S,v,e1,fl,a',c',av,cv,mid,rfl,hIs,-,-,hSv,-,hvw,-,hb10⟩;have hB10:Below w2.heap.size w2 w10:=HB9.out.trans (hb10.mono HB9.out.size);obtain⟨wz,w11,hWz,hW11,hx11,hb11,hl11,hzz⟩:=My w10 (iv v.k) (iv v.n) (bz v.t) (.slice av v.l.length cv) (iv e1) (iv fl);obtain⟨z0,z1,z2,z3,z4,z5,zl⟩:=A0 hzz;obtain⟨y0,y1,y2,y3,y4,y5⟩:=fz6 hzz;have hB11:Below w2.heap.size w2 w11:=hB10.trans (hb11.mono hB10.size);have HSv:Hid (Al Cr w11 S (.slice a' S.length c')):=(hSv.base (fun _ _ _=>trivial)).below hb11;have Hvw:Hid (IsW Cr w11 v (.slice av v.l.length cv)):=(hvw.base (fun _ _ _=>trivial)).below hb11;have Hx11:Hid (w11.heap[w10.heap.size]?=some (ouO (iv v.k) (iv v.n) (bz v.t) (.slice av v.l.length cv) (iv e1) (iv fl))):=hx11;have HIs:Hid (Dy m states n args fq S v e1 fl):=hIs;have HB11:Hid (Below w2.heap.size w2 w11):=hB11;have hbw:=HBf.out w11 hB11;have hR2:=Rn (fuel:=fq) (n:=n) (Hm.out.below hbw) (Hs.out.below hbw) (Ha.out.below hbw) (fun v hv=>by have:=HS.out.wc v hv;omega) (fun v hv=>by have:=HS.out.ws v hv;omega) (fun v hv=>by have:=HS.out.wa v hv;omega) (by have:=HS.out.ls;omega) (by have:=HS.out.la;omega) Hnf.out.1 Hnf.out.2 (Ht.out.at hbw);obtain⟨j0,j1,j2,j3,j4,j5,j6,j7⟩:=Hcel.out w11 hB11
   clear hR hIs hSv hvw hb10 hb11 hx11 hzz hB10 hB11 hl11 k0 k1 k2 k3 k4 k5 k6 k7 hbw HRun;go_wp2_with fail;refine hR2.mono ?_;rintro e w12 ⟨S2,v2,e2,fl2,a2,c2',av2,cv2,rfl,hIs2,hS2,hv2,hb12⟩;clear hWz hW11 z0 z1 z2 z3 z4 z5 zl y0 y1 y2 y3 y4 y5 j0 j1 j2 j3 j4 j5 j6 j7;obtain⟨h1,h2,h3,h4⟩:=HIs.out.one hIs2;subst h1;subst h2;subst h3;subst h4;obtain⟨wz,w13,hWz,hW13,hx13,hb13,hl13,hzz⟩:=My w12 (iv v.k) (iv v.n) (bz v.t) (.slice av2 v.l.length cv2) (iv e1) (iv fl);obtain⟨z0,z1,z2,z3,z4,z5,zl⟩:=A0 hzz;obtain⟨y0,y1,y2,y3,y4,y5⟩:=fz6 hzz;have hb1113:Below w11.heap.size w11 w13:=hb12.trans (hb13.mono hb12.size);have HB13:Hid (Below w.heap.size w w13):=HBf.out w13 (HB11.out.trans (hb1113.mono HB11.out.size));have hS13:Al Cr w13 S (.slice a' S.length c'):=HSv.out.below hb1113;have hT13:Al Cr w13 S (.slice a2 S.length c2'):=(hS2.base (fun _ _ _=>trivial)).below hb13;have hv13:IsW Cr w13 v (.slice av v.l.length cv):=Hvw.out.below hb1113;have hu13:IsW Cr w13 v (.slice av2 v.l.length cv2):=(hv2.base (fun _ _ _=>trivial)).below hb13;have hSA:=M2 hS13 hT13;have HSo:Hid (∀w',Below w13.heap.size w13 w'->Calls Tryz.prog 14 #[.agg #[iv v.k,iv v.n,bz v.t,.slice av v.l.length cv,iv e1,iv fl],.agg #[iv v.k,iv v.n,bz v.t,.slice av2 v.l.length cv2,iv e1,iv fl]] w' fun r w''=>r=.returned (.bool true)∧Below w'.heap.size w' w''):=fun w' h=>On (hv13.below h) (hu13.below h)
   have hxc:∀w',Below w13.heap.size w13 w'->(w'.cell? ⟨w10.heap.size,0,none⟩=some (iv v.k)∧w'.cell? ⟨w10.heap.size,1,none⟩=some (iv v.n)∧w'.cell? ⟨w10.heap.size,2,none⟩=some (bz v.t)∧w'.cell? ⟨w10.heap.size,3,none⟩=some (.slice av v.l.length cv)∧w'.cell? ⟨w10.heap.size,4,none⟩=some (iv e1)∧w'.cell? ⟨w10.heap.size,5,none⟩=some (iv fl)∧w10.heap.size<w'.heap.size)∧(w'.cell? ⟨w12.heap.size,0,none⟩=some (iv v.k)∧w'.cell? ⟨w12.heap.size,1,none⟩=some (iv v.n)∧w'.cell? ⟨w12.heap.size,2,none⟩=some (bz v.t)∧w'.cell? ⟨w12.heap.size,3,none⟩=some (.slice av2 v.l.length cv2)∧w'.cell? ⟨w12.heap.size,4,none⟩=some (iv e1)∧w'.cell? ⟨w12.heap.size,5,none⟩=some (iv fl)∧w12.heap.size<w'.heap.size):=fun w' h=>by
    have hg1:=(Array.getElem?_eq_some_iff.1 Hx11.out).1;exact⟨A0 ((h.block _ (Nat.lt_of_lt_of_le hg1 hb1113.size)).trans ((hb1113.block _ hg1).trans Hx11.out)),A0 ((h.block _ hl13).trans hx13)⟩
   have Hxc:Hid _:=hxc;clear hR2 hIs2 hS2 hv2 hb12 hb13 hx13 hzz hb1113 hl13 hS13 hT13 hv13 hu13 hxc HSv Hvw Hx11 HIs HB11 HB9 Hcel HBf Hs Ha Hm Ht HS Hnf;go_wp2_with fail;refine hSA.mono ?_;rintro r w14 ⟨rfl,hb14⟩;obtain⟨⟨q0,q1,q2,q3,q4,q5,q6⟩,⟨r0,r1,r2,r3,r4,r5,r6⟩⟩:=Hxc.out w14 hb14;have hO:=HSo.out w14 hb14;have HB14:Hid (Below w.heap.size w w14):=HB13.out.trans (hb14.mono HB13.out.size);clear hSA hb14 Hxc HSo HB13 hWz hW13 z0 z1 z2 z3 z4 z5 zl y0 y1 y2 y3 y4 y5;go_wp2_with fail;refine hO.mono ?_;rintro r w15 ⟨rfl,hb15⟩;have hfin:Below w.heap.size w w15:=HB14.out.trans (hb15.mono HB14.out.size);clear hO hb15 HB14;go_wp2;go_ret;exact⟨rfl,hfin⟩
end
end Go.Proofs.YtnijcolomoobnaaGreatDoor
