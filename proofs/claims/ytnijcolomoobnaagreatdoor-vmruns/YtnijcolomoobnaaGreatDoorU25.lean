/- Texts of ours, joined. -/
import Derived.Test.YtnijcolomoobnaaGreatDoorU19
import Derived.Test.YtnijcolomoobnaaGreatDoorU21
set_option linter.unusedVariables false
set_option linter.unusedSimpArgs false
set_option maxRecDepth 100000
set_option maxHeartbeats 16000000
namespace Go.Proofs.YtnijcolomoobnaaGreatDoor
section
open Go.RowKit
attribute [local go_sem ↓] Go.wp_at_zero Go.wp_at_succ
theorem Yf(w:World)(x0 x1 x2 x3:Value):∃wz w4,w.alloc (.cells #[iv 0,iv 0,.string ⟨#[]⟩,sZ] 31)=wz∧(((wz.setCell ⟨w.heap.size,0,none⟩ x0).setCell ⟨w.heap.size,1,none⟩ x1).setCell ⟨w.heap.size,2,none⟩ x2).setCell ⟨w.heap.size,3,none⟩ x3=w4∧Below w.heap.size w wz∧Below w.heap.size w w4∧w4.heap[w.heap.size]?=some (.cells #[x0,x1,x2,x3] 31 (0,0))∧wz.heap[w.heap.size]?=some (.cells #[iv 0,iv 0,.string ⟨#[]⟩,sZ] 31 (0,0)):=by
 have hb:Below w.heap.size w (w.alloc (.cells #[iv 0,iv 0,.string ⟨#[]⟩,sZ] 31)):=(Below.refl _ _).alloc (Nat.le_refl _) _;have hz:(w.alloc (.cells #[iv 0,iv 0,.string ⟨#[]⟩,sZ] 31)).heap[w.heap.size]?=some (.cells #[iv 0,iv 0,.string ⟨#[]⟩,sZ] 31 (0,0)):=Ai _ _;refine⟨_,_,rfl,rfl,hb,(((hb.setCell (p:=⟨w.heap.size,0,none⟩) (Nat.le_refl _) x0).setCell (p:=⟨w.heap.size,1,none⟩) (Nat.le_refl _) x1).setCell (p:=⟨w.heap.size,2,none⟩) (Nat.le_refl _) x2).setCell (p:=⟨w.heap.size,3,none⟩) (Nat.le_refl _) x3,?_,hz⟩;generalize w.alloc (.cells #[iv 0,iv 0,.string ⟨#[]⟩,sZ] 31)=wz at *;simp[World.setCell,Array.getElem?_modify,hz]
theorem Lw{w:World}{g:Nat}{y0 y1 y2 y3:Value}{T:TypeId}(h:w.heap[g]?=some (.cells #[y0,y1,y2,y3] T (0,0))):w.cell? ⟨g,0,none⟩=some y0∧w.cell? ⟨g,1,none⟩=some y1∧w.cell? ⟨g,2,none⟩=some y2∧w.cell? ⟨g,3,none⟩=some y3∧w.frozen? ⟨g,0,none⟩=false∧w.frozen? ⟨g,1,none⟩=false∧w.frozen? ⟨g,2,none⟩=false∧w.frozen? ⟨g,3,none⟩=false∧g<w.heap.size:=by
 refine⟨?_,?_,?_,?_,?_,?_,?_,?_,(Array.getElem?_eq_some_iff.1 h).1⟩
 all_goals first | simp[World.cell?,h] | simp[World.frozen?,h]
theorem Lx{nc:Nat}{states:Int}{fs:List Fu}{n:Nat}{f:Fu}(hn:n<=fs.length)(hnum:A8 nc f)(hins:∀i∈f.code,Do nc states n f i)(hpre:∀k g,k<n->fs[k]?=some g->0<=g.params∧g.params<=8):InsOk fs f:=by
 unfold A8 at hnum;refine⟨by omega,by omega,by omega,fun i hi h9=>?_,fun i hi=>?_,fun i hi h=>?_⟩
 ·have:=(hins i hi).call h9;exact⟨i.a.toNat,fs[i.a.toNat]'(by omega),by omega,List.getElem?_eq_getElem _⟩
 ·unfold popN;split
  ·omega
  split
  ·omega
  split
  ·omega
  split
  ·rename_i h9;have h:=(hins i hi).call (by simpa using h9);have hg:fs[i.a.toNat]?=some (fs[i.a.toNat]'(by omega)):=List.getElem?_eq_getElem _;rw[hg];exact hpre _ _ (by omega) hg
  ·omega
 ·obtain⟨_,_,h3,_⟩:=Au.1 (hins i hi);unfold Bc at h3;split at h3
  ·rename_i h12;simp at h12;omega
  ·exact h3
theorem Kp{B:Nat->Prop}{m:Md}{ac af:Option Addr}{cc cf:Nat}{w:World}(hm:IsMd B w m (.slice ac m.consts.length cc) (.slice af m.funcs.length cf))(hwt:∀v∈m.consts,wt v<=4611686018427387904)(states:Int) :
  Calls Tryz.prog 33 #[.agg #[.slice ac m.consts.length cc,.slice af m.funcs.length cf],iv states] w fun e w'=>e=.returned (iv (vfy m states))∧Below w.heap.size w w':=by
 obtain⟨w0,hW0,hb0,hl0,hx0⟩:=Dq w (.slice ac m.consts.length cc) (.slice af m.funcs.length cf) 25;obtain⟨d0,d1,-,-,hld⟩:=Ae hx0;have hcell:∀wr,Below w0.heap.size w0 wr->wr.cell? ⟨w.heap.size,0,none⟩=some (.slice ac m.consts.length cc)∧wr.cell? ⟨w.heap.size,1,none⟩=some (.slice af m.funcs.length cf)∧w.heap.size<wr.heap.size:=fun wr hb=>by
  obtain⟨q0,q1,-,-,q2⟩:=Ae ((hb.block _ hld).trans hx0);exact⟨q0,q1,q2⟩
 have hBf:∀wr,Below w0.heap.size w0 wr->Below w.heap.size w wr:=fun wr hb=>hb0.trans (hb.mono hb0.size)
 obtain⟨vr,hvr⟩:∃vr,Hid (vfy m states=vr):=⟨_,rfl⟩;rw[hvr.out];have hno:∀wr,Below w0.heap.size w0 wr->¬Run m states->(Ending.returned (iv 40)=Ending.returned (iv vr)∧Below w.heap.size w wr):=fun wr hb hr=>⟨by rw[<-hvr.out,H9 hr],hBf wr hb⟩
 clear hl0 hx0;by_cases h1:states<0
 ·have hpost:=hno w0 (Below.refl _ _) (fun h=>by have:=h.st.1;omega);have i1:states<0:=by omega
  clear hm hwt hno hcell hBf;go_enter Tryz.func33,Tryz.ntmps33;go_wp2;go_ret;exact hpost
 by_cases h2:32<states
 ·have hpost:=hno w0 (Below.refl _ _) (fun h=>by have:=h.st.2;omega);have i2:32<states:=by omega
  have j1:¬states<0:=by omega
  clear hm hwt hno hcell hBf;go_enter Tryz.func33,Tryz.ntmps33;go_wp2;go_ret;exact hpost
 by_cases h3:32<m.funcs.length
 ·have hpost:=hno w0 (Below.refl _ _) (fun h=>by have:=h.few.1;omega);have i3:32<(m.funcs.length:Int):=by omega
  have j1:¬states<0:=by omega
  have j2:¬32<states:=by omega
  clear hm hwt hno hcell hBf;go_enter Tryz.func33,Tryz.ntmps33;go_wp2;go_ret;exact hpost
 by_cases h4:16384<m.consts.length
 ·have hpost:=hno w0 (Below.refl _ _) (fun h=>by have:=h.few.2;omega);have i4:16384<(m.consts.length:Int):=by omega
  have j1:¬states<0:=by omega
  have j2:¬32<states:=by omega
  have j3:¬32<(m.funcs.length:Int):=by omega
  clear hm hwt hno hcell hBf;go_enter Tryz.func33,Tryz.ntmps33;go_wp2;go_ret;exact hpost
 have s1:¬states<0:=h1;have s2:¬32<states:=h2;have s3:¬32<(m.funcs.length:Int):=by omega
 have s4:¬16384<(m.consts.length:Int):=by omega
 go_enter Tryz.func33,Tryz.ntmps33;go_wp2_with fail;clear hW0 d0 d1 s3 s4
 go_loopg [32] m.consts.length (fun gk i wr=>∃q:Nat,q<=m.consts.length∧gk=m.consts.length - q∧i=iv q∧Hid (Below w0.heap.size w0 wr∧∀(p:Nat) v,p<q->m.consts[p]?=some v->ctype v≠[]))
 case atStart=>exact⟨0,Nat.zero_le _,rfl,rfl,Below.refl _ _,fun p v hp=>by omega⟩
 case round=>
  obtain⟨q,hq,rfl,rfl,HI⟩:=hrel;obtain⟨hBr,hct⟩:=HI.out;clear HI;by_cases hlt:q<m.consts.length
  ·have hltI:(q:Int)<(m.consts.length:Int):=by omega
   have hq0:(0:Int)<=(q:Int):=by omega
   obtain⟨x,hx⟩:∃x,m.consts[q]?=some x:=⟨_,List.getElem?_eq_getElem hlt⟩;obtain⟨gx,ox,ax,cx,rfl,-,hgx,p0,p1,p2,p3,hwx⟩:=(hm.con.below (hBf wr hBr)).get hx;obtain⟨wz,wb,hWz,hWb,hbz,hbb,hxb,hz⟩:=Yf wr (iv x.k) (iv x.n) (bz x.t) (.slice ax x.l.length cx);obtain⟨z0,z1,z2,z3,y0,y1,y2,y3,hlz⟩:=Lw hz;obtain⟨c0,c1,c2,c3,-,-,-,-,hlc⟩:=Lw hxb;have hT:=Np (hwx.below hbb) (hwt x (List.mem_of_getElem? hx));have hBb:Below w0.heap.size w0 wb:=hBr.trans (hbb.mono hBr.size);have Hct:Hid (∀(p:Nat) v,p<q->m.consts[p]?=some v->ctype v≠[]):=hct;have hxx:Hid (m.consts[q]?=some x):=hx;clear hct hx hz hxb hwx;go_wp2_with fail;refine hT.mono ?_;rintro e w2 ⟨rfl,hb2⟩;have hB2:Below w0.heap.size w0 w2:=hBb.trans (hb2.mono hBb.size);clear hT hWz hWb z0 z1 z2 z3 y0 y1 y2 y3 c0 c1 c2 c3 p0 p1 p2 p3;by_cases hc:ctype x=[]
   ·have hpost:=hno w2 hB2 (fun h=>h.con x (List.mem_of_getElem? hxx.out) hc);rw[hc];clear hm hwt hno Hct hxx hc hcell hBf;go_wp2;go_ret;exact hpost
   ·obtain⟨c,r,hcr⟩:∃c r,ctype x=c :: r:=by
     rcases h:ctype x with _ | ⟨c,r⟩
     ·exact absurd h hc
     ·exact⟨c,r,rfl⟩
    have hnew:Hid (Below w0.heap.size w0 w2∧∀(p:Nat) v,p<q+1->m.consts[p]?=some v->ctype v≠[]):=⟨hB2,fun p v hp hv=>by
     by_cases e:p=q
     ·subst e;rw[hxx.out] at hv;cases hv;exact hc
     ·exact Hct.out p v (by omega) hv⟩
    rw[hcr];clear hm hwt hno Hct hxx hc hcell hBf hcr;go_wp2_with fail;go_roundg (m.consts.length - (q+1))
    case measure=>omega
    case rel=>exact⟨q+1,by omega,rfl,by go_num,hnew⟩
  ·have hltI:¬(q:Int)<(m.consts.length:Int):=by omega
   have hcon:Hid (∀v∈m.consts,ctype v≠[]):=fun v hv=>by
    obtain⟨i,hi⟩:=List.mem_iff_getElem?.1 hv;exact hct i v (by have:=(List.getElem?_eq_some_iff.1 hi).1;omega) hi
   obtain⟨k0,k1,k2⟩:=hcell wr hBr;clear hct;have hBr0:Hid (Below w0.heap.size w0 wr):=hBr;clear hBr;go_wp2_with fail;clear k0 k1
   go_loopg [43] m.funcs.length (fun gk i wr'=>∃n:Nat,n<=m.funcs.length∧gk=m.funcs.length - n∧i=iv n∧Hid (Below w0.heap.size w0 wr'∧∀(k:Nat) g,k<n->m.funcs[k]?=some g->FuOk m.consts.length states m.funcs k g))
   case atStart=>exact⟨0,Nat.zero_le _,rfl,rfl,hBr0.out,fun k g hk=>by omega⟩
   case round=>
    obtain⟨n,hn,rfl,rfl,HI⟩:=hrel;have hBr:=HI.out.1;have Hok:Hid (∀(k:Nat) g,k<n->m.funcs[k]?=some g->FuOk m.consts.length states m.funcs k g):=HI.out.2;clear HI hBr0;by_cases hnlt:n<m.funcs.length
    rotate_left
    ·have hnI:¬(n:Int)<(m.funcs.length:Int):=by omega
     have hrun:Run m states:=⟨⟨by omega,by omega⟩,⟨by omega,by omega⟩,hcon.out,fun k g hk=>Hok.out k g (by have:=(List.getElem?_eq_some_iff.1 hk).1;omega) hk⟩;have hpost:Ending.returned (iv 0)=Ending.returned (iv vr)∧Below w.heap.size w wr:=⟨by rw[<-hvr.out,H8 hrun],hBf wr hBr⟩;clear hm hwt hno hcell hBf hrun Hok hcon hBr;go_wp2;go_ret;exact hpost
    have hnI:(n:Int)<(m.funcs.length:Int):=by omega
    have hn0:(0:Int)<=(n:Int):=by omega
    obtain⟨f,hf⟩:∃f,m.funcs[n]?=some f:=⟨_,List.getElem?_eq_getElem hnlt⟩;obtain⟨gf,of,ak,ck,haf,-,hgf,p0,p1,p2,p3,p4,hfn⟩:=(hm.fun_.since (Since.of_below (hBf wr hBr))).get hf;subst haf;obtain⟨wz,wb,hWz,hWb,hbz,hbb,-,hxb,hz⟩:=U8 wr (iv f.params) (iv f.locals) (iv f.zero) (iv f.stack) (.slice ak f.code.length ck);obtain⟨z0,z1,z2,z3,z4,y0,y1,y2,y3,y4,hlz⟩:=Ak hz;obtain⟨c0,c1,c2,c3,c4,-,-,-,-,-,hlc⟩:=Ak hxb;have hBb:Below w0.heap.size w0 wb:=hBr.trans (hbb.mono hBr.size);obtain⟨k0,k1,k3⟩:=hcell wb hBb;have hff:Hid (m.funcs[n]?=some f):=hf;have hfnb:=hfn.below hbb;have hclen:f.code.length<=9223372036854775807:=by obtain⟨_,_,e,h1,h2⟩:=hfn.code.slice;cases e;omega
    clear hf hxb hz hfn;by_cases n1:f.params<0
    ·have hpost:=hno wb hBb (fun h=>by have:=(h.fun_ n f hff.out).num;unfold A8 at this;omega);clear hm hwt hno hcell hBf Hok hcon hfnb hBb hBr hff;go_wp2;go_ret;exact hpost
    by_cases n2:8<f.params
    ·have hpost:=hno wb hBb (fun h=>by have:=(h.fun_ n f hff.out).num;unfold A8 at this;omega);clear hm hwt hno hcell hBf Hok hcon hfnb hBb hBr hff;go_wp2;go_ret;exact hpost
    by_cases n3:f.locals<f.params
    ·have hpost:=hno wb hBb (fun h=>by have:=(h.fun_ n f hff.out).num;unfold A8 at this;omega);clear hm hwt hno hcell hBf Hok hcon hfnb hBb hBr hff;go_wp2;go_ret;exact hpost
    by_cases n4:256<f.locals
    ·have hpost:=hno wb hBb (fun h=>by have:=(h.fun_ n f hff.out).num;unfold A8 at this;omega);clear hm hwt hno hcell hBf Hok hcon hfnb hBb hBr hff;go_wp2;go_ret;exact hpost
    by_cases n5:f.zero<0
    ·have hpost:=hno wb hBb (fun h=>by have:=(h.fun_ n f hff.out).num;unfold A8 at this;omega);clear hm hwt hno hcell hBf Hok hcon hfnb hBb hBr hff;go_wp2;go_ret;exact hpost
    by_cases n6:(m.consts.length:Int)<=f.zero
    ·have hpost:=hno wb hBb (fun h=>by have:=(h.fun_ n f hff.out).num;unfold A8 at this;omega);clear hm hwt hno hcell hBf Hok hcon hfnb hBb hBr hff;go_wp2;go_ret;exact hpost
    by_cases n7:f.stack<1
    ·have hpost:=hno wb hBb (fun h=>by have:=(h.fun_ n f hff.out).num;unfold A8 at this;omega);clear hm hwt hno hcell hBf Hok hcon hfnb hBb hBr hff;go_wp2;go_ret;exact hpost
    by_cases n8:256<f.stack
    ·have hpost:=hno wb hBb (fun h=>by have:=(h.fun_ n f hff.out).num;unfold A8 at this;omega);clear hm hwt hno hcell hBf Hok hcon hfnb hBb hBr hff;go_wp2;go_ret;exact hpost
    by_cases n9:(f.code.length:Int)<1
    ·have hpost:=hno wb hBb (fun h=>by have:=(h.fun_ n f hff.out).num;unfold A8 at this;omega);clear hm hwt hno hcell hBf Hok hcon hfnb hBb hBr hff;go_wp2;go_ret;exact hpost
    by_cases n10:16384<(f.code.length:Int)
    ·have hpost:=hno wb hBb (fun h=>by have:=(h.fun_ n f hff.out).num;unfold A8 at this;omega);clear hm hwt hno hcell hBf Hok hcon hfnb hBb hBr hff;go_wp2;go_ret;exact hpost
    have hnum:A8 m.consts.length f:=by unfold A8;omega
    have hBbH:Hid (Below w0.heap.size w0 wb):=hBb;clear hBb hBr;go_wp2_with fail;clear hWz hWb z0 z1 z2 z3 z4 y0 y1 y2 y3 y4 c0 c1 c2 c3 c4 k0 k1 p0 p1 p2 p3 p4 n1 n2 n3 n4 n5 n6 n7 n8 n9 n10
    go_loopg [106] f.code.length (fun gk i wr'=>∃j:Nat,j<=f.code.length∧gk=f.code.length - j∧i=iv j∧Hid (Below wb.heap.size wb wr'∧∀(k:Nat) i,k<j->f.code[k]?=some i->Do m.consts.length states n f i))
    case atStart=>exact⟨0,Nat.zero_le _,rfl,rfl,Below.refl _ _,fun k i hk=>by omega⟩
    case round=>
     obtain⟨j,hj,rfl,rfl,HI⟩:=hrel;have hBj:=HI.out.1;have Hin:Hid (∀(k:Nat) i,k<j->f.code[k]?=some i->Do m.consts.length states n f i):=HI.out.2;clear HI;have hBr:Below w0.heap.size w0 wr:=hBbH.out.trans (hBj.mono hBbH.out.size);by_cases hjlt:j<f.code.length
     ·have hjI:(j:Int)<(f.code.length:Int):=by omega
      have hj0:(0:Int)<=(j:Int):=by omega
      obtain⟨i,hi⟩:∃i,f.code[j]?=some i:=⟨_,List.getElem?_eq_getElem hjlt⟩;obtain⟨gc,oc,hak,-,hgc,ci0,ci1,-,-⟩:=((hfnb.below hBj).code).get hi;subst hak;obtain⟨wz,wi,hWz,hWi,hbz,hbi,-,hxi,hz⟩:=O9 wr (iv i.op) (iv i.a);obtain⟨z0,z1,y0,y1,hlz⟩:=Ae hz;obtain⟨u0,u1,-,-,hli⟩:=Ae hxi;have hBi:Below w0.heap.size w0 wi:=hBr.trans (hbi.mono hBr.size);have hBji:Below wb.heap.size wb wi:=hBj.trans (hbi.mono hBj.size);obtain⟨k0,k1,k4⟩:=hcell wi hBi;have hF:=Nh (hm.below (hBf wi hBi)) (states:=states) hff.out i;have hii:Hid (f.code[j]?=some i):=hi;clear hi hxi hz;go_wp2_with fail;refine hF.mono ?_;rintro e w3 ⟨rfl,hb3⟩;have hB3:Below w0.heap.size w0 w3:=hBi.trans (hb3.mono hBi.size);have hBj3:Below wb.heap.size wb w3:=hBji.trans (hb3.mono hBji.size);clear hF hWz hWi z0 z1 y0 y1 u0 u1 k0 k1 ci0 ci1;cases hib:inB m.consts.length states n f i with
      | false=>
       have hpost:=hno w3 hB3 (fun h=>by have:=(h.fun_ n f hff.out).ins i (List.mem_of_getElem? hii.out);unfold Do at this;rw[hib] at this;cases this);clear hm hwt hno hcell hBf Hok hcon hfnb hBbH hBj hBr hBi hBji hB3 hBj3 Hin hii hff hib;go_wp2;go_ret;exact hpost
      | true=>
       have hnew:Hid (Below wb.heap.size wb w3∧∀(k:Nat) i,k<j+1->f.code[k]?=some i->Do m.consts.length states n f i):=⟨hBj3,fun k i' hk hi'=>by
        by_cases e:k=j
        ·subst e;rw[hii.out] at hi';cases hi';exact hib
        ·exact Hin.out k i' (by omega) hi'⟩
       clear hm hwt hno hcell hBf Hok hcon hfnb hBbH hBj hBr hBi hBji hB3 hBj3 Hin hii hff hib;go_wp2_with fail;go_roundg (f.code.length - (j+1))
       case measure=>omega
       case rel=>exact⟨j+1,by omega,rfl,by go_num,hnew⟩
     ·have hjI:¬(j:Int)<(f.code.length:Int):=by omega
      have hall:∀i∈f.code,Do m.consts.length states n f i:=fun i hi=>by
       obtain⟨k,hk⟩:=List.mem_iff_getElem?.1 hi;exact Hin.out k i (by have:=(List.getElem?_eq_some_iff.1 hk).1;omega) hk
      have hio:InsOk m.funcs f:=Lx (by omega) hnum hall (fun k g hk hg=>by have:=(Hok.out k g hk hg).num;unfold A8 at this;omega);have hW:=Nj (hm.below (hBf wr hBr)) hff.out hio;obtain⟨k0,k1,k4⟩:=hcell wr hBr;clear hio Hin hBj;go_wp2_with fail;refine hW.mono ?_;rintro e w3 ⟨⟨b,rfl,hb⟩,hb3⟩;have hB3:Below w0.heap.size w0 w3:=hBr.trans (hb3.mono hBr.size);have hbH:Hid (b=true↔Bo m.funcs f):=hb;clear hW hb k0 k1;cases b with
      | false=>
       have hpost:=hno w3 hB3 (fun h=>by have:=hbH.out.2 (h.fun_ n f hff.out).walk;cases this);clear hm hwt hno hcell hBf Hok hcon hfnb hBbH hBr hB3 hbH hff hall hnum;go_wp2;go_ret;exact hpost
      | true=>
       have hnew:Hid (Below w0.heap.size w0 w3∧∀(k:Nat) g,k<n+1->m.funcs[k]?=some g->FuOk m.consts.length states m.funcs k g):=⟨hB3,fun k g hk hg=>by
        by_cases e:k=n
        ·subst e;rw[hff.out] at hg;cases hg;exact⟨hnum,hall,hbH.out.1 rfl⟩
        ·exact Hok.out k g (by omega) hg⟩
       clear hm hwt hno hcell hBf Hok hcon hfnb hBbH hBr hB3 hbH hff hall hnum;go_wp2_with fail;go_roundg (m.funcs.length - (n+1))
       case measure=>omega
       case rel=>exact⟨n+1,by omega,rfl,by go_num,hnew⟩
end
section
theorem Do.w{nc:Nat}{states:Int}{n:Nat}{f:Fu}{i:In}(h:Do nc states n f i):InW i:=by
 obtain⟨h1,h2,h3,h4⟩:=Au.1 h;refine⟨h1,h2,fun hp=>?_⟩;unfold Bc at h3;split at h3
 ·rename_i c;simp at c;omega
 ·exact h3
theorem Dx{it:Int->List UInt8}{m:Md}(hw:∀f∈m.funcs,∀i∈f.code,InW i):∀(g:Nat) {n p:Nat} {loc stk sts:List V} {fl:Int} {o:VOut},0<=fl->vmRun it m g n p loc stk sts fl=some o->0<=o.fuel∧o.fuel<=fl∧(o.trap=54->o.fuel=0)
 | 0,n,p,loc,stk,sts,fl,o,h0,h=>by rw[vmRun] at h;cases h
 | g+1,n,p,loc,stk,sts,fl,o,h0,h=>by
  rw[vmRun] at h;rcases hi:(m.funcs[n]?).bind (fun f=>f.code[p]?) with _ | i
  ·have hN:vmN it m n p loc stk sts fl=.bad:=by unfold vmN;rw[hi]
   rw[hN] at h;cases h
  have hiw:InW i:=by
   obtain⟨f,hf,hc⟩:=Option.bind_eq_some_iff.1 hi;exact hw f (List.mem_of_getElem? hf) i (List.mem_of_getElem? hc)
  have hN:vmN it m n p loc stk sts fl=vmI it m i p loc (stk.take (stk.length - (popN m.funcs i).toNat)) (stk.drop (stk.length - (popN m.funcs i).toNat)) sts fl:=by unfold vmN;rw[hi]
  rw[hN] at h;rcases hx:vmI it m i p loc (stk.take (stk.length - (popN m.funcs i).toNat)) (stk.drop (stk.length - (popN m.funcs i).toNat)) sts fl with o' | ⟨p',loc',stk',sts',fl'⟩ | ⟨q,lk,s,fl'⟩ | _
  all_goals rw[hx] at h
  ·have e:o'=o:=Option.some.inj h;subst e;exact S8 h0 hx
  ·obtain⟨-,-,h1,h2,-⟩:=Gp hiw h0 hx;obtain⟨h3,h4,h5⟩:=Dx hw g h2 h;exact⟨h3,by omega,h5⟩
  ·obtain⟨-,-,-,h1,h2,-⟩:=D6 hx;have h':(match vmRun it m g q 0 lk [] sts fl' with
    | none=>none
    | some o=>if o.trap≠0 then some o else vmRun it m g n (p+1) loc (s ++ [o.val]) o.sts o.fuel)=some o:=h
   rcases ho:vmRun it m g q 0 lk [] sts fl' with _ | o'
   ·rw[ho] at h';cases h'
   rw[ho] at h';have h6:(if o'.trap≠0 then some o' else vmRun it m g n (p+1) loc (s ++ [o'.val]) o'.sts o'.fuel)=some o:=h';obtain⟨h3,h4,h5⟩:=Dx hw g h2 ho;by_cases c:o'.trap≠0
   ·rw[if_pos c] at h6;have e:o'=o:=Option.some.inj h6;subst e;exact⟨h3,by omega,h5⟩
   ·rw[if_neg c] at h6;obtain⟨h7,h8,h9⟩:=Dx hw g h3 h6;exact⟨h7,by omega,h9⟩
  ·cases h
theorem Vj{it:Int->List UInt8}{m:Md}{states:Int}(hr:Run m states):∀(n:Nat) (f:Fu),m.funcs[n]?=some f->∀(H:Nat->Option Int),Lab m.funcs f H->∀(F:Nat) (d p:Nat) (loc stk sts:List V) (fl:Int),0<=fl->fl.toNat<=F->f.code.length - p<=d->H p=some (stk.length:Int)->∃g o,vmRun it m g n p loc stk sts fl=some o:=by
 have hw:∀f∈m.funcs,∀i∈f.code,InW i:=fun f hf i hi=>by
  obtain⟨k,hk⟩:=List.mem_iff_getElem?.1 hf;exact ((hr.fun_ k f hk).ins i hi).w
 intro n;induction n using Nat.strongRecOn with
 | _ n ihn=>
 intro f hf H hH F;have hfo:=hr.fun_ n f hf;induction F using Nat.strongRecOn with
 | _ F ihF=>
 intro d;induction d using Nat.strongRecOn with
 | _ d ihd=>
 intro p loc stk sts fl h0 hF hd hp;obtain⟨i,hc,a1,a2,a3⟩:=hH.step p _ hp;have hpl:=(List.getElem?_eq_some_iff.1 hc).1;have him:=List.mem_of_getElem? hc;have hiw:=hw f (List.mem_of_getElem? hf) i him;have hpop:0<=popN m.funcs i:=by
  unfold popN;split
  ·omega
  split
  ·omega
  split
  ·omega
  split
  ·rename_i h9;have h:=(hfo.ins i him).call (by simpa using h9);rcases hg:m.funcs[i.a.toNat]? with _ | f'
   ·simp
   ·have:=(hr.fun_ _ f' hg).num;unfold A8 at this;simpa using this.1
  ·omega
 have hb:(m.funcs[n]?).bind (fun f=>f.code[p]?)=some i:=by rw[hf];exact hc
 have hN:vmN it m n p loc stk sts fl=vmI it m i p loc (stk.take (stk.length - (popN m.funcs i).toNat)) (stk.drop (stk.length - (popN m.funcs i).toNat)) sts fl:=by unfold vmN;rw[hb]
 have hsl:((stk.take (stk.length - (popN m.funcs i).toNat)).length:Int)=stk.length - popN m.funcs i:=by
  rw[List.length_take];omega
 rcases hx:vmN it m n p loc stk sts fl with o' | ⟨p',loc',stk',sts',fl'⟩ | ⟨q,lk,s,fl'⟩ | _
 ·exact⟨1,o',by rw[vmRun,hx]⟩
 ·rw[hN] at hx;obtain⟨b1,b2,b3,b4,b5⟩:=Gp hiw h0 hx;rw[<-hN] at hx;have hH':H p'=some (stk'.length:Int):=by
   rw[a3 p' b1,b2,hsl];rfl
  have hrec:∃g o,vmRun it m g n p' loc' stk' sts' fl'=some o:=by
   by_cases hle:p'<=p
   ·have:=b5 hle;exact ihF (F - 1) (by omega) (f.code.length - p') p' loc' stk' sts' fl' b4 (by omega) (Nat.le_refl _) hH'
   ·exact ihd (f.code.length - p') (by omega) p' loc' stk' sts' fl' b4 (by omega) (Nat.le_refl _) hH'
  obtain⟨g,o,hg⟩:=hrec;exact⟨g+1,o,by rw[vmRun,hx];exact hg⟩
 ·rw[hN] at hx;obtain⟨b1,b2,b3,b4,b5,f',b6,b7⟩:=D6 hx;rw[<-hN] at hx;have hca:=(hfo.ins i him).call b1;obtain⟨H',hH'⟩:=(hr.fun_ q f' b6).walk;obtain⟨g1,o1,hg1⟩:=ihn q (by omega) f' b6 H' hH' fl'.toNat f'.code.length 0 lk [] sts fl' b5 (Nat.le_refl _) (by omega) hH'.zero;by_cases ht:o1.trap≠0
  ·exact⟨g1+1,o1,by rw[vmRun,hx];show (match vmRun it m g1 q 0 lk [] sts fl' with | none=>none | some o=>_)=_;rw[hg1];show (if _ then _ else _)=_;rw[if_pos ht]⟩
  ·obtain⟨c1,c2,-⟩:=Dx hw g1 b5 hg1;have hnx:p+1∈nxt p i:=by
    unfold nxt;rw[if_neg (show ¬(i.op=7∨i.op=10) by omega)];simp
   have hps:psh i.op=1:=by rw[b1];simp[psh,pshB]
   have hH2:H (p+1)=some ((s ++ [o1.val]).length:Int):=by
    rw[a3 _ hnx,b3,List.length_append];unfold hgt;rw[hps];simp only[List.length_singleton];congr 1;omega
   obtain⟨g2,o2,hg2⟩:=ihd (f.code.length - (p+1)) (by omega) (p+1) loc (s ++ [o1.val]) o1.sts o1.fuel c1 (by omega) (Nat.le_refl _) hH2;refine⟨max g1 g2+1,o2,?_⟩;rw[vmRun,hx];show (match vmRun it m (max g1 g2) q 0 lk [] sts fl' with | none=>none | some o=>_)=_;rw[Pd (Nat.le_max_left _ _) hg1];show (if _ then _ else _)=_;rw[if_neg ht];exact Pd (Nat.le_max_right _ _) hg2
 ·rw[hN] at hx;obtain⟨b1,b2⟩:=Pe hx;have hca:=(hfo.ins i him).call b1;have hnl:=(List.getElem?_eq_some_iff.1 hf).1;have:=List.getElem?_eq_none_iff.1 b2;omega
end
section
open Go.RowKit
theorem Qf{v:V}(h:ctype v≠[]):v.l=[]∧wt v<=16384∧∃T,Shp T v:=by
 refine⟨?_,?_⟩
 ·unfold ctype at h;split at h
  ·assumption
  ·exact absurd rfl h
 ·have hl:v.l=[]:=by
   unfold ctype at h;split at h
   ·assumption
   ·exact absurd rfl h
  unfold ctype at h;rw[if_pos hl] at h;rcases hf:tys.find? (fun t=>fitS t v) with _ | t
  ·rw[hf] at h;exact absurd rfl h
  ·have h1:=List.find?_some hf;have h1':fitS t v=true:=h1;obtain⟨T,-,hS⟩:=Vl h1';exact⟨Xc h1',T,hS⟩
end
section
mutual
def Sd:V->Prop
 | .mk k n t l=>1<=k∧k<=5∧(k≠3->t=[])∧(2<k->n=0)∧(k<4->l=[])∧(k=5->Cy l∧l.length % 2=0∧l.length<=128)∧(k=2->n=0∨n=1)∧(k=3->t.length<=256)∧(k=4->l.length<=64)∧Sds l
def Sds:List V->Prop
 | []=>True
 | v :: r=>Sd v∧Sds r
end
theorem Pg:∀{l:List V},Sds l↔∀v∈l,Sd v
 | []=>by rw[Sds];simp
 | a :: r=>by rw[Sds,Pg];simp
theorem Bd{k n:Int}{t:List UInt8}{l:List V}:Sd (.mk k n t l)↔1<=k∧k<=5∧(k≠3->t=[])∧(2<k->n=0)∧(k<4->l=[])∧(k=5->Cy l∧l.length % 2=0∧l.length<=128)∧(k=2->n=0∨n=1)∧(k=3->t.length<=256)∧(k=4->l.length<=64)∧∀v∈l,Sd v:=by rw[Sd,Pg]
def Snd(v:V):Prop:=wt v<=16384∧Sd v
theorem Iq{x:V}:∀{l:List V},x∈l->wt x<=wts l
 | [],h=>by simp at h
 | a :: r,h=>by
  rw[wts];rcases List.mem_cons.1 h with rfl | h
  ·omega
  ·have:=Iq h;omega
theorem Xd{v x:V}(h:Snd v)(hx:x∈v.l):Snd x:=by
 obtain⟨k,n,t,l⟩:=v;obtain⟨h1,h2⟩:=h;have hx':x∈l:=hx;rw[Bd] at h2;rw[wt] at h1;exact⟨by have:=Iq hx';omega,h2.2.2.2.2.2.2.2.2.2 x hx'⟩
theorem L8(b:Bool):Snd (bV' b):=by
 refine⟨by simp[wt,wts],?_⟩;rw[Bd];refine⟨by omega,by omega,fun _=>rfl,by omega,fun _=>rfl,by omega,fun _=>?_,by omega,by omega,by simp⟩;cases b <;> simp
theorem L9(n:Int):Snd (nV n):=by
 refine⟨by simp[wt,wts],?_⟩;rw[Bd];exact⟨by omega,by omega,fun _=>rfl,by omega,fun _=>rfl,by omega,by omega,by omega,by omega,by simp⟩
theorem snd_t{t:List UInt8}(h:t.length<=256):Snd (tV t):=by
 refine⟨by simp[wt,wts];omega,?_⟩;rw[Bd];exact⟨by omega,by omega,fun h=>absurd rfl h,fun _=>rfl,fun _=>rfl,by omega,by omega,fun _=>h,by omega,by simp⟩
theorem Vm{op:Int}{a b:V}(h:(binV op a b).2=0):Snd (binV op a b).1:=by
 unfold binV at h ⊢;split
 ·exact L8 _
 rename_i c1;rw[if_neg c1] at h;split
 ·exact L8 _
 rename_i c2;rw[if_neg c2] at h;split
 ·rename_i c;rw[if_pos c] at h;simp at h
 rename_i c3;rw[if_neg c3] at h;split
 ·exact L8 _
 rename_i c4;rw[if_neg c4] at h;split
 ·rename_i c;rw[if_pos c] at h;split
  ·exact L9 _
  ·rename_i c;rw[if_neg c] at h;exact absurd h c
 rename_i c5;rw[if_neg c5] at h;split
 ·rename_i c;rw[if_pos c] at h;split
  ·rename_i c;exact snd_t (by simpa using c)
  ·rename_i c;rw[if_neg c] at h;simp at h
 ·rename_i c;rw[if_neg c] at h;simp at h
theorem Vn{a:V}(h:(negV a).2=0):Snd (negV a).1:=by
 unfold negV at h ⊢;split
 ·rename_i c;rw[if_pos c] at h;split
  ·exact L9 _
  ·rename_i c;rw[if_neg c] at h;exact absurd h c
 ·rename_i c;rw[if_neg c] at h;simp at h
theorem Tc{l:List V}{k x:V}(hr:Cy l)(he:l.length % 2=0)(hh:hit k l=true):Cy (spl l (2*kat k l+1) (2*kat k l+1+1) [x]):=by
 have hk:=Da hh;have hlt:=(List.getElem?_eq_some_iff.1 hk).1;generalize kat k l=q at *;have hg:=Ku l (2*q+1) (2*q+1+1) [x] (by omega);have hkey:∀i,(spl l (2*q+1) (2*q+1+1) [x])[2*i]?=l[2*i]?:=by
  intro i;rw[hg];simp only[List.length_cons,List.length_nil];split
  ·rfl
  ·rw[if_neg (by omega)];congr 1;omega
 exact fun i a b ha hb=>hr i a b (by rw[<-hkey];exact ha) (by rw[show 2*i+2=2*(i+1) by omega] at hb ⊢;rw[<-hkey];exact hb)
theorem Td{l:List V}{k x:V}(hr:Cy l)(hev:l.length % 2=0)(hh:hit k l=false):Cy (spl l (2*kat k l) (2*kat k l) [k,x]):=by
 have hle:=Ez k l;have hlo:=fun i a (ha:l[2*i]?=some a) (hi:i<kat k l)=>Ns ha hi
 have hhi:∀i a,l[2*i]?=some a->kat k l<=i->cmpV k a<0:=by
  intro i a ha hi;have h1:=Nt (k:=k) hev hr ha hi;have h2:=Dm k a;have h3:¬cmpV a k=0:=by
   intro e;have e':=(Cl a k).1 e;subst e';have:=(S0 hr hev ha).2;rw[hh] at this;cases this
  omega
 generalize kat k l=q at *;have hg:=Ku l (2*q) (2*q) [k,x] (by omega);have g1:∀j,j<2*q->(spl l (2*q) (2*q) [k,x])[j]?=l[j]?:=fun j hj=>by rw[hg,if_pos hj]
 have g2:(spl l (2*q) (2*q) [k,x])[2*q]?=some k:=by rw[hg,if_neg (by omega),if_pos (by simp)];simp
 have g4:∀j,2*q<=j->(spl l (2*q) (2*q) [k,x])[j+2]?=l[j]?:=fun j hj=>by
  rw[hg,if_neg (by omega),if_neg (by simp;omega)];congr 1;simp;omega
 have hkey:∀i y,(spl l (2*q) (2*q) [k,x])[2*i]?=some y->(i<q∧l[2*i]?=some y)∨(i=q∧y=k)∨(q<i∧l[2*(i - 1)]?=some y):=by
  intro i y hy;rcases Nat.lt_trichotomy i q with hi | hi | hi
  ·exact Or.inl ⟨hi,by rw[<-g1 _ (by omega)];exact hy⟩
  ·subst hi;rw[g2] at hy;exact Or.inr (Or.inl ⟨rfl,(Option.some.inj hy).symm⟩)
  ·refine Or.inr (Or.inr ⟨hi,?_⟩);rw[<-g4 _ (by omega),show 2*(i - 1)+2=2*i by omega];exact hy
 intro i a b ha hb;rw[show 2*i+2=2*(i+1) by omega] at hb;rcases hkey i a ha with⟨i1,h1⟩ | ⟨i1,rfl⟩ | ⟨i1,h1⟩
 ·rcases hkey (i+1) b hb with⟨j1,h2⟩ | ⟨j1,rfl⟩ | ⟨j1,h2⟩
  ·exact hr.lt (i:=i) (j:=i+1) (by omega) h1 h2
  ·exact hlo i a h1 i1
  ·omega
 ·rcases hkey (i+1) b hb with⟨j1,h2⟩ | ⟨j1,e⟩ | ⟨j1,h2⟩
  ·omega
  ·omega
  ·exact hhi _ b h2 (by omega)
 ·rcases hkey (i+1) b hb with⟨j1,h2⟩ | ⟨j1,e⟩ | ⟨j1,h2⟩
  ·omega
  ·omega
  ·exact hr.lt (i:=i - 1) (j:=i+1 - 1) (by omega) h1 h2
theorem Te{l:List V}{k:V}(hr:Cy l)(hev:l.length % 2=0)(hh:hit k l=true):Cy (spl l (2*kat k l) (2*kat k l+2) []):=by
 have hk:=Da hh;have hlt:=(List.getElem?_eq_some_iff.1 hk).1;generalize kat k l=q at *;have hg:=Ku l (2*q) (2*q+2) [] (by omega);have g1:∀j,j<2*q->(spl l (2*q) (2*q+2) [])[j]?=l[j]?:=fun j hj=>by rw[hg,if_pos hj]
 have g2:∀j,2*q<=j->(spl l (2*q) (2*q+2) [])[j]?=l[j+2]?:=fun j hj=>by
  rw[hg,if_neg (by omega),if_neg (by simp;omega)];congr 1;simp;omega
 have hkey:∀i y,(spl l (2*q) (2*q+2) [])[2*i]?=some y->(i<q∧l[2*i]?=some y)∨(q<=i∧l[2*(i+1)]?=some y):=by
  intro i y hy;by_cases hi:i<q
  ·exact Or.inl ⟨hi,by rw[<-g1 _ (by omega)];exact hy⟩
  ·exact Or.inr ⟨by omega,by rw[show 2*(i+1)=2*i+2 by omega,<-g2 _ (by omega)];exact hy⟩
 intro i a b ha hb;rw[show 2*i+2=2*(i+1) by omega] at hb;rcases hkey i a ha with⟨i1,h1⟩ | ⟨i1,h1⟩
 ·rcases hkey (i+1) b hb with⟨j1,h2⟩ | ⟨j1,h2⟩
  ·exact hr.lt (i:=i) (j:=i+1) (by omega) h1 h2
  ·exact hr.lt (i:=i) (j:=i+1+1) (by omega) h1 h2
 ·rcases hkey (i+1) b hb with⟨j1,h2⟩ | ⟨j1,h2⟩
  ·omega
  ·exact hr.lt (i:=i+1) (j:=i+1+1) (by omega) h1 h2
theorem spl_mem{l xs:List V}{f t:Nat}{x:V}(h:x∈spl l f t xs):x∈l∨x∈xs:=by
 unfold spl at h;rcases List.mem_append.1 h with h | h
 ·rcases List.mem_append.1 h with h | h
  ·exact Or.inl (List.mem_of_mem_take h)
  ·exact Or.inr h
 ·exact Or.inl (List.mem_of_mem_drop h)
theorem Kv{l xs:List V}{f t:Nat}(hf:f<=l.length)(ht:t<=l.length):(spl l f t xs).length=f+xs.length+(l.length - t):=by
 unfold spl;simp;omega
theorem Xe{v k:V}(hv:Snd v)(h:(atV v k).2=0):Snd (atV v k).1:=by
 have hp:(plV v k).2=0:=by
  unfold atV at h;split at h
  ·assumption
  ·rename_i c;exact absurd h c
 unfold atV;rw[if_pos hp];have ht:Et v:=by
  obtain⟨vk,n,t,l⟩:=v;have:=Bd.1 hv.2;exact fun h5=>⟨(this.2.2.2.2.2.1 h5).2.1,(this.2.2.2.2.2.1 h5).1⟩
 have hlt:=Kt ht hp;show Snd (v.l.getD (plV v k).1 V.zero);rw[List.getD_eq_getElem?_getD,List.getElem?_eq_getElem hlt];exact Xd hv (List.getElem_mem hlt)
theorem Tf{v x:V}(hv:Snd v)(hx:Snd x)(h:(pushV v x).2=0):Snd (pushV v x).1:=by
 unfold pushV at h ⊢;split
 ·rename_i c;rw[if_pos c] at h;simp at h
 rename_i c1;rw[if_neg c1] at h;split
 ·rename_i c;rw[if_pos c] at h;simp at h
 rename_i c2;rw[if_neg c2] at h;unfold wgV at h ⊢;split
 ·rename_i c;refine⟨c,?_⟩;obtain⟨k,n,t,l⟩:=v;have hs:=Bd.1 hv.2;have hk:k=4:=Classical.not_not.1 c1;have hl:¬64<=l.length:=c2;show Sd (.mk k n t (l ++ [x]));rw[Bd];refine⟨hs.1,hs.2.1,hs.2.2.1,hs.2.2.2.1,by omega,by omega,hs.2.2.2.2.2.2.1,hs.2.2.2.2.2.2.2.1,fun _=>by simp;omega,fun y hy=>?_⟩;rcases List.mem_append.1 hy with hy | hy
  ·exact hs.2.2.2.2.2.2.2.2.2 y hy
  ·simp at hy;subst hy;exact hx.2
 ·rename_i c;rw[if_neg c] at h;simp at h
theorem Vo{v k x:V}(hv:Snd v)(hk:Snd k)(hx:Snd x)(h:(putV v k x).2=0):Snd (putV v k x).1:=by
 obtain⟨vk,n,t,l⟩:=v;have hs:=Bd.1 hv.2;have ht:Et (.mk vk n t l):=fun h5=>⟨(hs.2.2.2.2.2.1 h5).2.1,(hs.2.2.2.2.2.1 h5).1⟩
 unfold putV at h ⊢;by_cases hp:(plV (.mk vk n t l) k).2=0
 ·rw[if_pos hp] at h ⊢;have hlt:(plV (.mk vk n t l) k).1<l.length:=Kt ht hp;unfold wgV at h ⊢;split
  ·rename_i c;refine⟨c,?_⟩;show Sd (.mk vk n t (spl l (plV (.mk vk n t l) k).1 ((plV (.mk vk n t l) k).1+1) [x]));have hlen:(spl l (plV (.mk vk n t l) k).1 ((plV (.mk vk n t l) k).1+1) [x]).length=l.length:=by
    rw[Kv (by omega) (by omega)];simp;omega
   rw[Bd];refine⟨hs.1,hs.2.1,hs.2.2.1,hs.2.2.2.1,fun h4=>?_,fun h5=>?_,hs.2.2.2.2.2.2.1,hs.2.2.2.2.2.2.2.1,fun h4=>by rw[hlen];exact hs.2.2.2.2.2.2.2.2.1 h4,fun y hy=>?_⟩
   ·have:=hs.2.2.2.2.1 h4;rw[this] at hlt;simp at hlt
   ·obtain⟨r1,r2,r3⟩:=hs.2.2.2.2.2.1 h5;refine⟨?_,by rw[hlen];exact r2,by rw[hlen];exact r3⟩;have hpe:(plV (.mk vk n t l) k).1=2*kat k l+1∧hit k l=true:=by
     unfold plV at hp ⊢;have c4:¬((V.mk vk n t l).k=4∧k.k=1):=by rintro⟨h4,-⟩;have:vk=4:=h4;omega
     rw[if_neg c4] at hp ⊢;have c5:(V.mk vk n t l).k=5:=h5;rw[if_pos c5] at hp ⊢;by_cases ch:hit k (V.mk vk n t l).l=true
     ·rw[if_pos ch];exact⟨rfl,ch⟩
     ·rw[if_neg ch] at hp;simp at hp
    rw[hpe.1];exact Tc r1 r2 hpe.2
   ·rcases spl_mem hy with hy | hy
    ·exact hs.2.2.2.2.2.2.2.2.2 y hy
    ·simp at hy;subst hy;exact hx.2
  ·rename_i c;rw[if_neg c] at h;simp at h
 ·rw[if_neg hp] at h ⊢;split
  ·rename_i c;rw[if_pos c] at h;exact absurd h hp
  rename_i c1;rw[if_neg c1] at h;split
  ·rename_i c;rw[if_pos c] at h;simp at h
  rename_i c2;rw[if_neg c2] at h;have h5:vk=5:=Classical.not_not.1 c1;obtain⟨r1,r2,r3⟩:=hs.2.2.2.2.2.1 h5;have hnh:hit k l=false:=by
   cases e:hit k l with
   | false=>rfl
   | true=>
    exfalso;apply hp;unfold plV;have c4:¬((V.mk vk n t l).k=4∧k.k=1):=by rintro⟨h4,-⟩;have:vk=4:=h4;omega
    rw[if_neg c4,if_pos (show (V.mk vk n t l).k=5 from h5),if_pos (show hit k (V.mk vk n t l).l=true from e)]
  unfold wgV at h ⊢;split
  ·rename_i c;refine⟨c,?_⟩;show Sd (.mk vk n t (spl l (2*kat k l) (2*kat k l) [k,x]));have hle:=Ez k l;have hlen:(spl l (2*kat k l) (2*kat k l) [k,x]).length=l.length+2:=by
    rw[Kv (by omega) (by omega)];simp;omega
   have hl64:¬64<=l.length / 2:=c2;rw[Bd];refine⟨hs.1,hs.2.1,hs.2.2.1,hs.2.2.2.1,by omega,fun _=>⟨Td r1 r2 hnh,by rw[hlen];omega,by rw[hlen];omega⟩,by omega,by omega,by omega,fun y hy=>?_⟩;rcases spl_mem hy with hy | hy
   ·exact hs.2.2.2.2.2.2.2.2.2 y hy
   ·simp at hy;rcases hy with rfl | rfl
    ·exact hk.2
    ·exact hx.2
  ·rename_i c;rw[if_neg c] at h;simp at h
theorem Vp{v k:V}(hv:Snd v)(h:(delV v k).2=0):Snd (delV v k).1:=by
 obtain⟨vk,n,t,l⟩:=v;have hs:=Bd.1 hv.2;unfold delV at h ⊢;split
 ·rename_i c;rw[if_pos c] at h;simp at h
 rename_i c1;have h5:vk=5:=Classical.not_not.1 c1;obtain⟨r1,r2,r3⟩:=hs.2.2.2.2.2.1 h5;split
 ·rename_i hh;have hh':hit k l=true:=hh;have hlt:=(List.getElem?_eq_some_iff.1 (Da hh')).1;have hlen:(spl l (2*kat k l) (2*kat k l+2) []).length=l.length - 2:=by
   rw[Kv (by omega) (by omega)];simp;omega
  refine⟨?_,?_⟩
  ·have h1:=hv.1;rw[wt] at h1;show wt (.mk vk n t (spl l (2*kat k l) (2*kat k l+2) []))<=16384;rw[wt];have h2:wts (spl l (2*kat k l) (2*kat k l+2) [])<=wts l:=by
    unfold spl;rw[Bl,Bl];have h3:=Bl (l.take (2*kat k l)) (l.drop (2*kat k l));rw[List.take_append_drop] at h3;have h4:wts (l.drop (2*kat k l+2))<=wts (l.drop (2*kat k l)):=by
     have:=Gy (l.drop (2*kat k l)) 2;rw[List.drop_drop] at this;exact this
    simp only[wts];omega
   omega
  ·show Sd (.mk vk n t (spl l (2*kat k l) (2*kat k l+2) []));rw[Bd];refine⟨hs.1,hs.2.1,hs.2.2.1,hs.2.2.2.1,by omega,fun _=>⟨Te r1 r2 hh',by rw[hlen];omega,by rw[hlen];omega⟩,by omega,by omega,by omega,fun y hy=>?_⟩;rcases spl_mem hy with hy | hy
   ·exact hs.2.2.2.2.2.2.2.2.2 y hy
   ·simp at hy
 ·exact hv
end
section
open Go.RowKit
attribute [local go_sem ↓] Go.wp_at_zero Go.wp_at_succ
noncomputable def Nq (nc:Nat) (f:Fu):Bool:=@decide (A8 nc f) (Classical.propDecidable _)
theorem F2{nc:Nat}{f:Fu}:Nq nc f=true↔A8 nc f:=by unfold Nq;simp
theorem St{nc:Nat}{f:Fu}(h:¬A8 nc f):Nq nc f=false:=by
 cases e:Nq nc f with
 | false=>rfl
 | true=>exact absurd (F2.1 e) h
theorem Nr{f:Fu}{ak af:Option Addr}{ck cf nc n:Nat}{states:Int}(hk:f.code.length<=900000)(hnc:nc<=900000)(w:World):Calls Tryz.prog 121 #[.agg #[iv f.params,iv f.locals,iv f.zero,iv f.stack,.slice ak f.code.length ck,iv nc,iv states,.slice af n cf]] w fun e w'=>e=.returned (.bool (Nq nc f))∧Below w.heap.size w w':=by
 obtain⟨w0,hW0,hb0,hl0,hx0⟩:=Nf w (iv f.params) (iv f.locals) (iv f.zero) (iv f.stack) (.slice ak f.code.length ck) (iv nc) (iv states) (.slice af n cf) 131;obtain⟨d0,d1,d2,d3,d4,d5,d6,d7,hlt0⟩:=Bz hx0;obtain⟨r,hr⟩:∃r,Hid (Nq nc f=r):=⟨_,rfl⟩;rw[hr.out];have hno:¬A8 nc f->(Ending.returned (.bool false)=Ending.returned (.bool r)∧Below w.heap.size w w0):=fun h=>⟨by rw[<-hr.out,St h],hb0⟩
 have hw1:IntKind.i64.wrap ((nc:Int) - 1)=(nc:Int) - 1:=by rw[IntKind.wrap_i64];omega
 have hC1:=Ci f.params 0 8 w0;have hC2:=Ci f.locals f.params 256 w0;have hC3:=Ci f.zero 0 ((nc:Int) - 1) w0;have hC4:=Ci f.stack 1 256 w0;have hC5:=Ci (f.code.length:Int) 1 16384 w0;clear hx0 hl0;cases h1:wn f.params 0 8 with
 | false=>
  have hpost:=hno (fun h=>by have:=(Bool.eq_false_iff.1 h1);rw[Ne,Ek] at this;unfold A8 at h;omega);rw[h1] at hC1;clear hno hC2 hC3 hC4 hC5 h1 hr hk;go_enter Tryz.func121,Tryz.ntmps121;go_wp2_with (refine hC1.mono ?_;rintro e w1 ⟨rfl,rfl⟩);go_ret;exact hpost
 | true=>
 rw[h1] at hC1;cases h2:wn f.locals f.params 256 with
 | false=>
  have hpost:=hno (fun h=>by have:=(Bool.eq_false_iff.1 h2);rw[Ne,Ek] at this;unfold A8 at h;omega);rw[h2] at hC2;clear hno hC3 hC4 hC5 h1 h2 hr hk;go_enter Tryz.func121,Tryz.ntmps121;go_wp2_with (first | (refine hC1.mono ?_;rintro e w1 ⟨rfl,rfl⟩;clear hC1) | (refine hC2.mono ?_;rintro e w1 ⟨rfl,rfl⟩));go_ret;exact hpost
 | true=>
 rw[h2] at hC2;cases h3:wn f.zero 0 ((nc:Int) - 1) with
 | false=>
  have hpost:=hno (fun h=>by have:=(Bool.eq_false_iff.1 h3);rw[Ne,Ek] at this;unfold A8 at h;omega);rw[h3] at hC3;clear hno hC4 hC5 h1 h2 h3 hr hk;go_enter Tryz.func121,Tryz.ntmps121;go_wp2_with (first | (refine hC1.mono ?_;rintro e w1 ⟨rfl,rfl⟩;clear hC1) | (refine hC2.mono ?_;rintro e w1 ⟨rfl,rfl⟩;clear hC2) | (refine hC3.mono ?_;rintro e w1 ⟨rfl,rfl⟩;clear hC3));go_ret;exact hpost
 | true=>
 rw[h3] at hC3;cases h4:wn f.stack 1 256 with
 | false=>
  have hpost:=hno (fun h=>by have:=(Bool.eq_false_iff.1 h4);rw[Ne,Ek] at this;unfold A8 at h;omega);rw[h4] at hC4;clear hno hC5 h1 h2 h3 h4 hr hk;go_enter Tryz.func121,Tryz.ntmps121;go_wp2_with (first | (refine hC1.mono ?_;rintro e w1 ⟨rfl,rfl⟩;clear hC1) | (refine hC2.mono ?_;rintro e w1 ⟨rfl,rfl⟩;clear hC2) | (refine hC3.mono ?_;rintro e w1 ⟨rfl,rfl⟩;clear hC3) | (refine hC4.mono ?_;rintro e w1 ⟨rfl,rfl⟩;clear hC4));go_ret;exact hpost
 | true=>
 rw[h4] at hC4;have hpost:Ending.returned (.bool (wn (f.code.length:Int) 1 16384))=Ending.returned (.bool r)∧Below w.heap.size w w0:=by
  refine⟨?_,hb0⟩;rw[<-hr.out];refine ret_bool ?_;rw[Ek] at h1 h2 h3 h4;rw[Bool.eq_iff_iff,Ek,F2];unfold A8;omega
 clear hno h1 h2 h3 h4 hr hk;go_enter Tryz.func121,Tryz.ntmps121;go_wp2_with (first | (refine hC1.mono ?_;rintro e w1 ⟨rfl,rfl⟩;clear hC1) | (refine hC2.mono ?_;rintro e w1 ⟨rfl,rfl⟩;clear hC2) | (refine hC3.mono ?_;rintro e w1 ⟨rfl,rfl⟩;clear hC3) | (refine hC4.mono ?_;rintro e w1 ⟨rfl,rfl⟩;clear hC4) | (refine hC5.mono ?_;rintro e w1 ⟨rfl,rfl⟩;clear hC5));go_ret;exact hpost
noncomputable def Kq (nc:Nat) (states:Int) (n:Nat) (f:Fu):Bool:=@decide (∀i∈f.code,Do nc states n f i) (Classical.propDecidable _)
theorem F3{nc:Nat}{states:Int}{n:Nat}{f:Fu}:Kq nc states n f=true↔∀i∈f.code,Do nc states n f i:=by unfold Kq;simp
theorem Su{nc:Nat}{states:Int}{n:Nat}{f:Fu}{i:In}(hi:i∈f.code)(h:inB nc states n f i=false):Kq nc states n f=false:=by
 cases e:Kq nc states n f with
 | false=>rfl
 | true=>
  have:=F3.1 e i hi;unfold Do at this;rw[h] at this;cases this
theorem Sv{B:Nat->Prop}{f:Fu}{ak af:Option Addr}{ck cf nc n:Nat}{states:Int}{w:World}(hf:IsFn B w f (.slice ak f.code.length ck))(hk:f.code.length<=900000)(hl:0<=f.locals∧f.locals<=256)(hnc:nc<=900000)(hn:n<=900000)(hst:0<=states∧states<=32):Calls Tryz.prog 122 #[.agg #[iv f.params,iv f.locals,iv f.zero,iv f.stack,.slice ak f.code.length ck,iv nc,iv states,.slice af n cf]] w fun e w'=>e=.returned (.bool (Kq nc states n f))∧Below w.heap.size w w':=by
 obtain⟨w0,hW0,hb0,hl0,hx0⟩:=Nf w (iv f.params) (iv f.locals) (iv f.zero) (iv f.stack) (.slice ak f.code.length ck) (iv nc) (iv states) (.slice af n cf) 131;obtain⟨d0,d1,d2,d3,d4,d5,d6,d7,hlt0⟩:=Bz hx0;obtain⟨r,hr⟩:∃r,Hid (Kq nc states n f=r):=⟨_,rfl⟩;rw[hr.out];have hE:=fun (op:Int) (w:World)=>R3 (f:=f) (ak:=ak) (af:=af) (ck:=ck) (cf:=cf) hk hl hnc hn hst op w
 have hcell:∀wr,Below w0.heap.size w0 wr->wr.heap[w.heap.size]?=some (.cells #[iv f.params,iv f.locals,iv f.zero,iv f.stack,.slice ak f.code.length ck,iv nc,iv states,.slice af n cf] 131 (0,0)):=fun wr hb=>(hb.block _ hlt0).trans hx0
 clear hx0 hl0;go_enter Tryz.func122,Tryz.ntmps122;go_wp2_with fail;clear d0 d1 d2 d3 d4 d5 d6 d7 hW0
 go_loopg [11] f.code.length (fun gk i wr=>∃j:Nat,j<=f.code.length∧gk=f.code.length - j∧i=iv j∧Hid (Below w0.heap.size w0 wr∧∀(k:Nat) i,k<j->f.code[k]?=some i->Do nc states n f i))
 case atStart=>exact⟨0,Nat.zero_le _,rfl,rfl,Below.refl _ _,fun k i hk=>by omega⟩
 case round=>
  obtain⟨j,hj,rfl,rfl,HI⟩:=hrel;have hBj:=HI.out.1;have Hin:Hid (∀(k:Nat) i,k<j->f.code[k]?=some i->Do nc states n f i):=HI.out.2;clear HI;have hBw:Below w.heap.size w wr:=hb0.trans (hBj.mono hb0.size);by_cases hjlt:j<f.code.length
  ·have hjI:(j:Int)<(f.code.length:Int):=by omega
   have hj0:(0:Int)<=(j:Int):=by omega
   obtain⟨i,hi⟩:∃i,f.code[j]?=some i:=⟨_,List.getElem?_eq_getElem hjlt⟩;obtain⟨gc,oc,hak,-,hgc,ci0,ci1,-,-⟩:=((hf.below hBw).code).get hi;subst hak;obtain⟨wz,wi,hWz,hWi,hbz,hbi,-,hxi,hz⟩:=O9 wr (iv i.op) (iv i.a);obtain⟨z0,z1,y0,y1,hlz⟩:=Ae hz;obtain⟨u0,u1,-,-,hli⟩:=Ae hxi;have hBji:Below w0.heap.size w0 wi:=hBj.trans (hbi.mono hBj.size);obtain⟨e0,e1,e2,e3,e4,e5,e6,e7,hle⟩:=Bz (hcell wi hBji);have hF:=hE i.op wi;have hii:Hid (f.code[j]?=some i):=hi;clear hi hz hf hE;go_wp2_with fail;refine hF.mono ?_;rintro e w3 ⟨rfl,hb3⟩;have hBj3:Below w0.heap.size w0 w3:=hBji.trans (hb3.mono hBji.size);have hBw3:Below w.heap.size w w3:=hb0.trans (hBj3.mono hb0.size);obtain⟨v0,v1,-,-,hlv⟩:=Ae ((hb3.block _ hli).trans hxi);have hG:=Ci i.a (Bc i.op) (Ie nc states n f i.op) w3;rw[W5] at hG;clear hF hWz hWi z0 z1 y0 y1 u0 u1 ci0 ci1 e0 e1 e2 e3 e4 e5 e6 e7 hxi hcell;generalize Bc i.op=lo at *;generalize Ie nc states n f i.op=hi at *;go_wp2_with fail;refine hG.mono ?_;rintro e w4 ⟨rfl,rfl⟩;clear hG v0 v1;cases hib:inB nc states n f i with
   | false=>
    have hpost:Ending.returned (.bool false)=Ending.returned (.bool r)∧Below w.heap.size w w4:=⟨by rw[<-hr.out,Su (List.mem_of_getElem? hii.out) hib],hBw3⟩;clear hBj hBji hBj3 hBw3 Hin hii hib;go_wp2;go_ret;exact hpost
   | true=>
    have hnew:Hid (Below w0.heap.size w0 w4∧∀(k:Nat) i,k<j+1->f.code[k]?=some i->Do nc states n f i):=⟨hBj3,fun k i' hk hi'=>by
     by_cases e:k=j
     ·subst e;rw[hii.out] at hi';cases hi';exact hib
     ·exact Hin.out k i' (by omega) hi'⟩
    clear hBj hBji hBj3 hBw3 Hin hii hib;go_wp2_with fail;go_roundg (f.code.length - (j+1))
    case measure=>omega
    case rel=>exact⟨j+1,by omega,rfl,by go_num,hnew⟩
  ·have hjI:¬(j:Int)<(f.code.length:Int):=by omega
   have hall:Kq nc states n f=true:=F3.2 fun i hi=>by
    obtain⟨k,hk⟩:=List.mem_iff_getElem?.1 hi;exact Hin.out k i (by have:=(List.getElem?_eq_some_iff.1 hk).1;omega) hk
   have hpost:Ending.returned (.bool true)=Ending.returned (.bool r)∧Below w.heap.size w wr:=⟨by rw[<-hr.out,hall],hBw⟩;clear hf hE hcell Hin hBj hall hr;go_wp2;go_ret;exact hpost
end
end Go.Proofs.YtnijcolomoobnaaGreatDoor
