/- Texts of ours, joined. -/
import Derived.Test.YtnijcolomoobnaaGreatDoorU30
set_option linter.unusedVariables false
set_option linter.unusedSimpArgs false
set_option maxRecDepth 100000
set_option maxHeartbeats 16000000
namespace Go.Proofs.YtnijcolomoobnaaGreatDoor
section
open Go.RowKit
attribute [local go_sem ↓] Go.wp_at_zero Go.wp_at_succ
theorem Mr{fs:List Fu}{f:Fu}{n:Nat}(hn:n<=fs.length)(hi:∀i∈f.code,i.op=9->0<=i.a∧i.a<n):Bo (fs.take n) f↔Bo fs f:=by
 constructor
 ·exact fun h=>h.funs (n:=n) (by simp;omega) hi (fun k hk=>(List.getElem?_take_of_lt hk).symm)
 ·exact fun h=>h.funs (n:=n) hn hi (fun k hk=>List.getElem?_take_of_lt hk)
def Oh(m:Md)(states:Int)(w:World)(e:Ending)(w':World):Prop:=(∃b,e=.returned (.bool b)∧(b=true↔Run m states))∧Below w.heap.size w w'
theorem Oi{B:Nat->Prop}{m:Md}{ac af:Option Addr}{cc cf:Nat}{w:World}(hm:IsMd B w m (.slice ac m.consts.length cc) (.slice af m.funcs.length cf))(hfit:Fit m)(states:Int) :
  Calls Tryz.prog 79 #[.agg #[.slice ac m.consts.length cc,.slice af m.funcs.length cf],iv states] w fun e w'=>Oh m states w e w':=by
 obtain⟨w0,hW0,hb0,hl0,hx0⟩:=Dq w (.slice ac m.consts.length cc) (.slice af m.funcs.length cf) 25;obtain⟨d0,d1,-,-,hld⟩:=Ae hx0;have hcell:∀wr,Below w0.heap.size w0 wr->wr.cell? ⟨w.heap.size,0,none⟩=some (.slice ac m.consts.length cc)∧wr.cell? ⟨w.heap.size,1,none⟩=some (.slice af m.funcs.length cf)∧w.heap.size<wr.heap.size:=fun wr hb=>by
  obtain⟨q0,q1,-,-,q2⟩:=Ae ((hb.block _ hld).trans hx0);exact⟨q0,q1,q2⟩
 have hBf:∀wr,Below w0.heap.size w0 wr->Below w.heap.size w wr:=fun wr hb=>hb0.trans (hb.mono hb0.size)
 have hno:∀wr,Below w0.heap.size w0 wr->¬Run m states->Oh m states w (.returned (.bool false)) wr:=fun wr hb hr=>⟨⟨false,rfl,by simp;exact hr⟩,hBf wr hb⟩
 have hfl:=hfit.fl;have hcl:=hfit.cl;have hWn:=Ci states 0 32 w0;clear hl0 hx0;cases hs:wn states 0 32 with
 | false=>
  have hpost:=hno w0 (Below.refl _ _) (fun h=>by have:=Bool.eq_false_iff.1 hs;rw[Ne,Ek] at this;exact this h.st);rw[hs] at hWn;clear hm hfit hno hcell hBf hs;go_enter Tryz.func79,Tryz.ntmps79;go_wp2_with fail;refine hWn.mono ?_;rintro e w1 ⟨rfl,rfl⟩;clear hWn;go_wp2;go_ret;exact hpost
 | true=>
 rw[hs] at hWn;have hst:=Ek.1 hs;by_cases h3:32<m.funcs.length
 ·have hpost:=hno w0 (Below.refl _ _) (fun h=>by have:=h.few.1;omega);have i3:32<(m.funcs.length:Int):=by omega
  clear hm hfit hno hcell hBf hs hst;go_enter Tryz.func79,Tryz.ntmps79;go_wp2_with fail;refine hWn.mono ?_;rintro e w1 ⟨rfl,rfl⟩;clear hWn;go_wp2;go_ret;exact hpost
 by_cases h4:16384<m.consts.length
 ·have hpost:=hno w0 (Below.refl _ _) (fun h=>by have:=h.few.2;omega);have i4:16384<(m.consts.length:Int):=by omega
  have j3:¬32<(m.funcs.length:Int):=by omega
  clear hm hfit hno hcell hBf hs hst;go_enter Tryz.func79,Tryz.ntmps79;go_wp2_with fail;refine hWn.mono ?_;rintro e w1 ⟨rfl,rfl⟩;clear hWn;go_wp2;go_ret;exact hpost
 have s3:¬32<(m.funcs.length:Int):=by omega
 have s4:¬16384<(m.consts.length:Int):=by omega
 have hCt:=Qw (hm.con.below hb0) hfit.wt;go_enter Tryz.func79,Tryz.ntmps79;go_wp2_with fail;refine hWn.mono ?_;rintro e w1 ⟨rfl,hw1⟩;obtain rfl:=hw1.symm;clear hWn;go_wp2_with fail;refine hCt.mono ?_;rintro e w1 ⟨rfl,hb1⟩;clear hCt hW0 d0 d1;cases hany:m.consts.any Ge with
 | true=>
  have hpost:=hno w1 hb1 (fun h=>by
   obtain⟨v,hv,hn⟩:=List.any_eq_true.1 hany;unfold Ge at hn;exact h.con v hv (List.isEmpty_iff.1 hn))
  clear hm hfit hno hcell hBf hs hst hany;go_wp2;go_ret;exact hpost
 | false=>
 have hcon:Hid (∀v∈m.consts,ctype v≠[]):=fun v hv he=>by
  have:=List.any_eq_false.1 hany v hv;unfold Ge at this;rw[he] at this;exact this rfl
 clear hany;obtain⟨k0,k1,k2⟩:=hcell _ hb1;have hBr0:Hid (Below w0.heap.size w0 w1):=hb1;clear hb1;go_wp2_with fail;clear k0 k1
 go_loopg [29] m.funcs.length (fun gk i wr'=>∃n:Nat,n<=m.funcs.length∧gk=m.funcs.length - n∧i=iv n∧Hid (Below w0.heap.size w0 wr'∧∀(k:Nat) g,k<n->m.funcs[k]?=some g->FuOk m.consts.length states m.funcs k g))
 case atStart=>exact⟨0,Nat.zero_le _,rfl,rfl,hBr0.out,fun k g hk=>by omega⟩
 case round=>
  obtain⟨n,hn,rfl,rfl,HI⟩:=hrel;have hBr:=HI.out.1;have Hok:Hid (∀(k:Nat) g,k<n->m.funcs[k]?=some g->FuOk m.consts.length states m.funcs k g):=HI.out.2;clear HI hBr0;by_cases hnlt:n<m.funcs.length
  rotate_left
  ·have hnI:¬(n:Int)<(m.funcs.length:Int):=by omega
   have hrun:Run m states:=⟨hst,⟨by omega,by omega⟩,hcon.out,fun k g hk=>Hok.out k g (by have:=(List.getElem?_eq_some_iff.1 hk).1;omega) hk⟩;have hpost:Oh m states w (.returned (.bool true)) wr:=⟨⟨true,rfl,by simp;exact hrun⟩,hBf wr hBr⟩;clear hm hfit hno hcell hBf hrun Hok hcon hBr hs hst;go_wp2;go_ret;exact hpost
  have hnI:(n:Int)<(m.funcs.length:Int):=by omega
  have hn0:(0:Int)<=(n:Int):=by omega
  obtain⟨f,hf⟩:∃f,m.funcs[n]?=some f:=⟨_,List.getElem?_eq_getElem hnlt⟩;obtain⟨gf,of,ak,ck,haf,-,hgf,p0,p1,p2,p3,p4,hfn⟩:=(hm.fun_.since (Since.of_below (hBf wr hBr))).get hf;subst haf;obtain⟨wz,wb,hWz,hWb,hbz,hbb,-,hxb,hz⟩:=U8 wr (iv f.params) (iv f.locals) (iv f.zero) (iv f.stack) (.slice ak f.code.length ck);obtain⟨z0,z1,z2,z3,z4,y0,y1,y2,y3,y4,hlz⟩:=Ak hz;obtain⟨c0,c1,c2,c3,c4,-,-,-,-,-,hlc⟩:=Ak hxb;have hBb:Below w0.heap.size w0 wb:=hBr.trans (hbb.mono hBr.size);obtain⟨k0,k1,k3⟩:=hcell wb hBb;have hff:Hid (m.funcs[n]?=some f):=hf;have hfnb:=hfn.below hbb;have hkl:=hfit.kl f (List.mem_of_getElem? hf);obtain⟨_,_,ec,hcf1,hcf2⟩:=hm.fun_.slice;simp only[Value.slice.injEq] at ec;obtain⟨-,-,rfl⟩:=ec;have hnc:(n:Int)<=(cf:Int):=by omega
  clear hf hxb hz hfn;go_wp2_with fail;clear hWz hWb z0 z1 z2 z3 z4 y0 y1 y2 y3 y4 p0 p1 p2 p3 p4;have e0:=World.new_ne wb ⟨wr.heap.size,0,none⟩ c0;have e1:=World.new_ne wb ⟨w.heap.size,0,none⟩ k0;go_region_held3 (fun w'=>w'.cell? ⟨wr.heap.size,0,none⟩=some (iv f.params)∧w'.cell? ⟨wr.heap.size,1,none⟩=some (iv f.locals)∧w'.cell? ⟨wr.heap.size,2,none⟩=some (iv f.zero)∧w'.cell? ⟨wr.heap.size,3,none⟩=some (iv f.stack)∧w'.cell? ⟨wr.heap.size,4,none⟩=some (.slice ak f.code.length ck)∧w'.cell? ⟨w.heap.size,0,none⟩=some (.slice ac m.consts.length cc)∧w'.cell? ⟨w.heap.size,1,none⟩=some (sL gf of m.funcs.length cf)) (go_keep) (fail);rename_i hHeld;clear hHeld e0 e1 c0 c1 c2 c3 c4 k0 k1;obtain⟨ws,hWs,hbs,-,hxs⟩:=Nf wb (iv f.params) (iv f.locals) (iv f.zero) (iv f.stack) (.slice ak f.code.length ck) (iv m.consts.length) (iv states) (sL gf of n cf) 131;rw[hWs];have hbt:Below wb.heap.size wb ws.drew:=hbs.drew;have hxt:ws.drew.heap[wb.heap.size]?=some (.cells #[iv f.params,iv f.locals,iv f.zero,iv f.stack,.slice ak f.code.length ck,iv m.consts.length,iv states,sL gf of n cf] 131 (0,0)):=hxs;clear hxs hbs hWs;generalize ws.drew=wt at *;have hBt:Below w0.heap.size w0 wt:=hBb.trans (hbt.mono hBb.size);have hFr:=Nr (f:=f) (ak:=ak) (ck:=ck) (af:=some ⟨gf,of,none⟩) (cf:=cf) (nc:=m.consts.length) (n:=n) (states:=states) hkl hcl wt;obtain⟨t0,t1,t2,t3,t4,t5,t6,t7,hlt⟩:=Bz hxt;cases hnum:Nq m.consts.length f with
  | false=>
   rw[hnum] at hFr;have hnr:¬Run m states:=fun h=>by have:=F2.2 (h.fun_ n f hff.out).num;rw[hnum] at this;cases this
   clear hm hfit hcell Hok hcon hBr hBb hbb hbt hfnb hff hnum hxt hst hs;go_wp2_with fail;refine hFr.mono ?_;rintro e w5 ⟨rfl,hb5⟩;have hpost:=hno w5 (hBt.trans (hb5.mono hBt.size)) hnr;clear hFr t0 t1 t2 t3 t4 t5 t6 t7 hno hBf hnr hBt hb5;go_wp2;go_ret;exact hpost
  | true=>
  rw[hnum] at hFr;have hnm:=F2.1 hnum;have hnmH:Hid (A8 m.consts.length f):=hnm;have hloc:0<=f.locals∧f.locals<=256:=by unfold A8 at hnm;omega
  have hclen:f.code.length<=16384:=by unfold A8 at hnm;omega
  clear hnm hnum;have hfnt:=hfnb.below hbt;have hFi:∀w',Below wt.heap.size wt w'->Calls Tryz.prog 122 #[.agg #[iv f.params,iv f.locals,iv f.zero,iv f.stack,.slice ak f.code.length ck,iv m.consts.length,iv states,sL gf of n cf]] w' fun e w''=>e=.returned (.bool (Kq m.consts.length states n f))∧Below w'.heap.size w' w'':=fun w' hb=>Sv (hfnt.below hb) hkl hloc hcl (by omega) hst
  have hcs:∀w',Below wt.heap.size wt w'->w'.heap[wb.heap.size]?=some (.cells #[iv f.params,iv f.locals,iv f.zero,iv f.stack,.slice ak f.code.length ck,iv m.consts.length,iv states,sL gf of n cf] 131 (0,0)):=fun w' hb=>(hb.block _ hlt).trans hxt
  clear hxt;cases hins:Kq m.consts.length states n f with
  | false=>
   have hnr:¬Run m states:=fun h=>by have:=F3.2 (h.fun_ n f hff.out).ins;rw[hins] at this;cases this
   rw[hins] at hFi;clear hm hfit hcell Hok hcon hBr hBb hbb hbt hfnb hff hins hst hs hfnt hnmH;go_wp2_with fail;refine hFr.mono ?_;rintro e w5 ⟨rfl,hb5⟩;obtain⟨t0,t1,t2,t3,t4,t5,t6,t7,hlt5⟩:=Bz (hcs w5 hb5);have hF5:=hFi w5 hb5;clear hFr hFi hcs;go_wp2_with fail;refine hF5.mono ?_;rintro e w6 ⟨rfl,hb6⟩;have hb56:=hb5.trans (hb6.mono hb5.size);have hpost:=hno w6 (hBt.trans (hb56.mono hBt.size)) hnr;clear hF5 t0 t1 t2 t3 t4 t5 t6 t7 hno hBf hnr hBt hb5 hb6 hb56;go_wp2;go_ret;exact hpost
  | true=>
  rw[hins] at hFi;have hall:=F3.1 hins;have hio:InsOk (m.funcs.take n) f:=Lx (nc:=m.consts.length) (states:=states) (n:=n) (by simp;omega) hnmH.out hall (fun k g hk hg=>by
   rw[List.getElem?_take_of_lt hk] at hg;have:=(Hok.out k g hk hg).num;unfold A8 at this;omega)
  have hlenT:(m.funcs.take n).length=n:=by simp;omega
  have hLv:∀w',Below wt.heap.size wt w'->Calls Tryz.prog 123 #[.agg #[iv f.params,iv f.locals,iv f.zero,iv f.stack,.slice ak f.code.length ck,iv m.consts.length,iv states,sL gf of n cf]] w' fun e w''=>Cb (m.funcs.take n) f w' e w'':=fun w' hb=>by
   have hBw':=hBf w' (hBt.trans (hb.mono hBt.size));have h1:=(hm.fun_.since (Since.of_below hBw')).take (n:=n) (by omega);have h2:=Q1 (nc:=m.consts.length) (states:=states) (hfnt.below hb) h1 hio (fun i hi=>by have:=Au.1 (hall i hi);omega) (fun i hi h=>by
    obtain⟨-,-,a3,a4⟩:=Au.1 (hall i hi);unfold Bc at a3;unfold Bx at a4;rcases h with h | h <;> rw[h] at a3 a4 <;> simp at a3 a4 <;> omega)
   rw[hlenT] at h2;exact h2
  have hwkH:Hid (Bo (m.funcs.take n) f↔Bo m.funcs f):=Mr (by omega) (fun i hi h9=>(hall i hi).call h9);have hallH:Hid (∀i∈f.code,Do m.consts.length states n f i):=hall;clear hall hio hlenT hfnt hBr hBb hbb hbt hfnb hm hfit hcell hins;go_wp2_with fail;refine hFr.mono ?_;rintro e w5 ⟨rfl,hb5⟩;clear t0 t1 t2 t3 t4 t5 t6 t7;obtain⟨t0,t1,t2,t3,t4,t5,t6,t7,hlt5⟩:=Bz (hcs w5 hb5);have hF5:=hFi w5 hb5;clear hFr hFi;go_wp2_with fail;refine hF5.mono ?_;rintro e w6 ⟨rfl,hb6⟩;have hb56:Below wt.heap.size wt w6:=hb5.trans (hb6.mono hb5.size);clear hF5 t0 t1 t2 t3 t4 t5 t6 t7;obtain⟨t0,t1,t2,t3,t4,t5,t6,t7,hlt6⟩:=Bz (hcs w6 hb56);have hL6:=hLv w6 hb56;clear hLv hcs hb5 hb6;go_wp2_with fail;refine hL6.mono ?_;rintro e w7 ⟨⟨b,rfl,hb⟩,hb7⟩;have hBe:=hBt.trans (hb56.mono hBt.size);have hBe7:=hBe.trans (hb7.mono hBe.size);have hbH:Hid (b=true↔Bo m.funcs f):=hb.trans hwkH.out;clear hL6 t0 t1 t2 t3 t4 t5 t6 t7 hb hwkH hb7 hb56 hBe hBt;cases b with
  | false=>
   have hpost:=hno w7 hBe7 (fun h=>by have:=hbH.out.2 (h.fun_ n f hff.out).walk;cases this);clear hno hBf Hok hcon hbH hff hallH hnmH hst hs hBe7;go_wp2;go_ret;exact hpost
  | true=>
   have hnew:Hid (Below w0.heap.size w0 w7∧∀(k:Nat) g,k<n+1->m.funcs[k]?=some g->FuOk m.consts.length states m.funcs k g):=⟨hBe7,fun k g hk hg=>by
    by_cases e:k=n
    ·subst e;rw[hff.out] at hg;cases hg;exact⟨hnmH.out,hallH.out,hbH.out.1 rfl⟩
    ·exact Hok.out k g (by omega) hg⟩
   clear hno hBf Hok hcon hbH hff hallH hnmH hst hs hBe7;go_wp2_with fail;go_roundg (m.funcs.length - (n+1))
   case measure=>omega
   case rel=>exact⟨n+1,by omega,rfl,by go_num,hnew⟩
theorem Oj{B:Nat->Prop}{m:Md}{ac af:Option Addr}{cc cf:Nat}{w:World}(hm:IsMd B w m (.slice ac m.consts.length cc) (.slice af m.funcs.length cf))(hfit:Fit m)(states:Int) :
  Calls Tryz.prog 38 #[.agg #[.slice ac m.consts.length cc,.slice af m.funcs.length cf],iv states] w fun e w'=>e=.returned (iv (vfy m states))∧Below w.heap.size w w':=by
 obtain⟨w0,hW0,hb0,hl0,hx0⟩:=Dq w (.slice ac m.consts.length cc) (.slice af m.funcs.length cf) 25;obtain⟨d0,d1,-,-,hld⟩:=Ae hx0;have hC:=Oi (hm.below hb0) hfit states;obtain⟨vr,hvr⟩:∃vr,Hid (vfy m states=vr):=⟨_,rfl⟩;rw[hvr.out];clear hm hfit hl0 hx0;go_enter Tryz.func38,Tryz.ntmps38;go_wp2_with fail;refine hC.mono ?_;rintro e w1 ⟨⟨b,rfl,hb⟩,hb1⟩;have hbH:Hid (b=true↔Run m states):=hb;have hB:Below w.heap.size w w1:=hb0.trans (hb1.mono hb0.size);clear hC hb d0 d1;cases b with
 | false=>
  have hv:Hid (vr=40):=by show _=_;rw[<-hvr.out];exact H9 (fun h=>by have:=hbH.out.2 h;cases this)
  clear hbH hvr;go_wp2;go_ret;exact⟨by rw[hv.out];rfl,hB⟩
 | true=>
  have hv:Hid (vr=0):=by show _=_;rw[<-hvr.out];exact H8 (hbH.out.1 rfl)
  clear hbH hvr;go_wp2;go_ret;exact⟨by rw[hv.out];rfl,hB⟩
end
end Go.Proofs.YtnijcolomoobnaaGreatDoor
