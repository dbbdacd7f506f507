/- Texts of ours, joined. -/
import Derived.Test.YtnijcolomoobnaaGreatDoorU02
import Derived.Test.YtnijcolomoobnaaGreatDoorRows
import Derived.ProofKit
import Derived.OpenShut
import Derived.ShutString
import Derived.Stop.Joined
set_option linter.unusedVariables false
set_option linter.unusedSimpArgs false
set_option maxRecDepth 100000
set_option maxHeartbeats 16000000
namespace Go.Proofs.YtnijcolomoobnaaGreatDoor
section
open Go.RowKit
mutual
def SzV:V->Prop
 | .mk _ _ t l=>t.length<=281474976710656∧Ee l
def Ee:List V->Prop
 | []=>True
 | v :: r=>SzV v∧Ee r
end
theorem Ee.mem:∀{l:List V} {x:V},Ee l->x∈l->SzV x
 | a :: r,x,h,hx=>by
  rw[Ee] at h;rcases List.mem_cons.1 hx with rfl | hx
  ·exact h.1
  ·exact Ee.mem h.2 hx
theorem Xx(v:V):SzV v↔v.t.length<=281474976710656∧Ee v.l:=by cases v;rw[SzV];rfl
structure But(g:Nat)(w w':World):Prop where
 os:w'.os=w.os
 tape:w'.tape=w.tape
 output:w'.output=w.output
 size:w.heap.size<=w'.heap.size
 block:∀k,k<w.heap.size->k≠g->w'.heap[k]?=w.heap[k]?
theorem But.refl(g:Nat)(w:World):But g w w:=⟨rfl,rfl,rfl,Nat.le_refl _,fun _ _ _=>rfl⟩
theorem But.trans{g:Nat}{a b c:World}(h:But g a b)(k:But g b c):But g a c:=⟨k.os.trans h.os,k.tape.trans h.tape,k.output.trans h.output,Nat.le_trans h.size k.size,fun i hi hg=>(k.block i (by have:=h.size;omega) hg).trans (h.block i hi hg)⟩
theorem But.of{g:Nat}{w w':World}(h:Below w.heap.size w w'):But g w w':=⟨h.os,h.tape,h.output,h.size,fun k hk _=>h.block k hk⟩
theorem But.set{w:World}{g o:Nat}(v:Value):But g w (w.setCell ⟨g,o,none⟩ v):=⟨rfl,rfl,rfl,by simp[World.setCell],fun k _ hk=>Below.heap_setCell _ _ _ _ hk⟩
theorem But.drew{g:Nat}{a w:World}(h:But g a w):But g a w.drew:=⟨h.os,h.tape,h.output,h.size,h.block⟩
theorem But.since{g:Nat}{w w':World}(h:But g w w'):Since (fun k=>k≠g) w w':=⟨h.size,fun k h1 h2=>h.block k h2 h1⟩
end
section
open Go.ChangeShapes Go.WideShapes Go.ChangeAt Go.RowKit
abbrev Cr:Nat->Prop:=fun _=>True
theorem Fv{B:Nat->Prop}{w:World}:∀(l:List V) (c:Nat->List Value),(∀i v,l[i]?=some v->IsV B w v (c i))->An B w l ((List.range l.length).flatMap c)
 | [],c,h=>by simp[An]
 | a :: r,c,h=>by
  have ih:=Fv r (fun i=>c (i+1)) (fun i v hi=>h (i+1) v (by simpa using hi));rw[List.length_cons,List.range_succ_eq_map,List.flatMap_cons,List.flatMap_map,An];exact⟨c 0,_,rfl,h 0 a (by simp),ih⟩
theorem Fe:∀(n:Nat) (c:Nat->List Value),(∀i,i<n->(c i).length=4)->((List.range n).flatMap c).length=n*4
 | 0,c,h=>by simp
 | n+1,c,h=>by
  rw[List.range_succ,List.flatMap_append,List.length_append,Fe n c (fun i hi=>h i (by omega))];simp[h n (by omega)];omega
theorem Gs:∀(n:Nat) (c:Nat->List Value) (j:Nat) (u:Value),(∀i,i<n->(c i).length=4)->((List.range n).flatMap c)[j]?=some u->j / 4<n∧(c (j / 4))[j % 4]?=some u
 | 0,c,j,u,h,hj=>by simp at hj
 | n+1,c,j,u,h,hj=>by
  rw[List.range_succ,List.flatMap_append] at hj;have hl:=Fe n c (fun i hi=>h i (by omega));by_cases hlt:j<n*4
  ·rw[List.getElem?_append_left (by omega)] at hj;obtain⟨h1,h2⟩:=Gs n c j u (fun i hi=>h i (by omega)) hj;exact⟨by omega,h2⟩
  ·rw[List.getElem?_append_right (by omega),hl] at hj;simp only[List.flatMap_cons,List.flatMap_nil,List.append_nil] at hj;have hlen:=(List.getElem?_eq_some_iff.1 hj).1;rw[h n (by omega)] at hlen;have e1:j / 4=n:=by omega
   have e2:j % 4=j - n*4:=by omega
   rw[e1,e2];exact⟨by omega,hj⟩
theorem K5{P:Nat->V->Prop}:∀(n:Nat),(∀i,i<n->∃v,P i v)->∃l:List V,l.length=n∧∀i v,l[i]?=some v->P i v
 | 0,h=>⟨[],rfl,fun i v hi=>by simp at hi⟩
 | n+1,h=>by
  obtain⟨l,h1,h2⟩:=K5 n (fun i hi=>h i (by omega));obtain⟨v,hv⟩:=h n (by omega);refine⟨l ++ [v],by simp[h1],fun i x hi=>?_⟩;by_cases hlt:i<n
  ·rw[List.getElem?_append_left (by omega)] at hi;exact h2 i x hi
  ·have hlen:=(List.getElem?_eq_some_iff.1 hi).1;simp[h1] at hlen;have:i=n:=by omega
   subst this;rw[List.getElem?_append_right (by omega),h1] at hi;simp at hi;subst hi;exact hv
theorem Fw{w:World}{a:Addr}{cs:List Value}(h:w.cells? 0 a 4=some cs):cs.length=4∧∀r u,cs[r]?=some u->w.cell? (a.add r)=some u:=by
 simp only[World.cells?,Nat.zero_le,if_true] at h;simp only[List.range_succ,List.range_zero,List.nil_append,List.cons_append,List.mapM_cons,List.mapM_nil,Option.bind_eq_bind,Option.pure_def] at h;simp only[Option.bind_eq_some_iff,Option.some.injEq] at h;obtain⟨c0,h0,r0,⟨c1,h1,r1,⟨c2,h2,r2,⟨c3,h3,_,rfl,rfl⟩,rfl⟩,rfl⟩,rfl⟩:=h;refine⟨rfl,fun r u hr=>?_⟩;have:=(List.getElem?_eq_some_iff.1 hr).1;simp only[List.length_cons,List.length_nil] at this;have hc:r=0∨r=1∨r=2∨r=3:=by omega
 rcases hc with rfl | rfl | rfl | rfl <;> (simp at hr;subst hr;assumption)
theorem De{n:Int}(h:(Lit.int .i64 n).wf=true):InR n:=by
 simp[Lit.wf,IntKind.min,IntKind.max,IntKind.bits,IntKind.signed] at h;unfold InR;omega
theorem Gc:Tryz.prog.cellsOf 31=4:=by kernel_rfl
theorem B2:Tryz.prog.cellsOf 3=1:=by kernel_rfl
theorem Qv:Tryz.prog.cellsOf 9=1:=by kernel_rfl
theorem E7:Tryz.prog.cellsOf 22=1:=by kernel_rfl
theorem Pl:∃f0 f1 f2 f3:Field,Tryz.prog.underlying 31=some (.struct #[f0,f1,f2,f3])∧f0.type=3∧f0.offset=0∧f1.type=3∧f1.offset=1∧f2.type=9∧f2.offset=2∧f3.type=22∧f3.offset=3:=⟨_,_,_,_,Tryz.underlying31,rfl,rfl,rfl,rfl,rfl,rfl,rfl,rfl⟩
theorem Gd:∀{l:List V},(∀x∈l,SzV x)->Ee l
 | [],h=>by rw[Ee];trivial
 | a :: r,h=>by rw[Ee];exact⟨h a (by simp),Gd (fun x hx=>h x (by simp[hx]))⟩
theorem weightsAll_mem{H:Type}{P:Program}{e:TypeId}:∀{l:List (DataW H)} {d:DataW H},d∈l->∀n∈d.weights P e,n∈DataW.weightsAll P e l
 | a :: r,d,h,n,hn=>by
  rw[DataW.weightsAll];rcases List.mem_cons.1 h with rfl | h
  ·exact List.mem_append_left _ hn
  ·exact List.mem_append_right _ (weightsAll_mem h n hn)
theorem A6{b o:Nat}(i:Nat):(⟨b,o,none⟩:Addr).add i=⟨b,o+i,none⟩:=by by_cases h:i=0 <;> simp[Addr.add,h]
theorem Mp{H:Type}{enc:TypeId × Value->H}{w:World}:∀(fuel:Nat) (cs:List Value) (x:DataW H × List MemPlace),DataW.trod enc Tryz.prog w 0 (fun _=>true) true fuel 31 cs=some x->∃v,IsV Cr w v cs∧((x.1.weights Tryz.prog 31).all (·<=reachBytes)=true->SzV v):=by
 intro fuel;induction fuel using Nat.strongRecOn with
 | _ fuel ih=>
  intro cs x h;obtain⟨f0,f1,f2,f3,hst,t0,o0,t1,o1,t2,o2,t3,o3⟩:=Pl;obtain⟨xs,n,rfl,rfl,hlen,hxl,hf⟩:=DataW.trod_struct hst h;rw[Gc] at hlen;have hx4:xs.length=4:=hxl
  match cs,hlen,xs,hx4,hf with
  | [c0,c1,c2,c3],_,[x0,x1,x2,x3],_,hf=>
   have g0:=hf 0 f0 rfl;have g1:=hf 1 f1 rfl;have g2:=hf 2 f2 rfl;have g3:=hf 3 f3 rfl;rw[t0,o0,B2] at g0;rw[t1,o1,B2] at g1;rw[t2,o2,Qv] at g2;rw[t3,o3,E7] at g3;simp only[List.drop_zero,List.drop_succ_cons,List.take_succ_cons,List.take_zero,List.getElem?_cons_zero,List.getElem?_cons_succ] at g0 g1 g2 g3;obtain⟨k,e0,rfl,w0⟩:=DataW.trod_int Tryz.underlying3 g0;obtain⟨m,e1,rfl,w1⟩:=DataW.trod_int Tryz.underlying3 g1;obtain⟨s,e2,rfl,hs⟩:=DataW.trod_string Tryz.underlying9 g2;simp only[List.cons.injEq,and_true] at e0 e1 e2;subst e0 e1 e2;have hss:s=⟨s.data.toList.toArray⟩:=by simp
   have hsl:s.data.toList.length<=maxLen:=by simpa using hs
   have hwts:((DataW.agg ([(DataW.lit (.int .i64 k),[]),(DataW.lit (.int .i64 m),[]),(DataW.lit (.string s.data.toList),[]),x3].map (·.1)):DataW H).weights Tryz.prog 31).all (·<=reachBytes)=true->s.data.toList.length<=reachBytes∧(x3.1.weights Tryz.prog 22).all (·<=reachBytes)=true:=by
    intro hw;simp only[DataW.weights,hst,t0,t1,t2,t3,List.map_cons,List.map_nil,DataW.weightsEach,List.nil_append,List.append_nil,List.cons_append,List.all_cons,List.all_append,Bool.and_eq_true,decide_eq_true_eq] at hw;exact hw
   have hreach:reachBytes<=281474976710656:=by decide
   rcases DataW.trod_slice Tryz.underlying22 g3 with⟨e3,e3'⟩ | ⟨a,len,cap,elems,rest,n',rfl,e3,e3',_,hlc,hcm,hel,hcell,_,_⟩
   ·simp only[List.cons.injEq,and_true] at e3;subst e3;refine⟨.mk k m s.data.toList [],At.2 ⟨sZ,?_,hsl,De w0,De w1,Al.nil⟩,fun hw=>?_⟩
    ·simp[V.k,V.n,V.t]
    ·rw[SzV];exact⟨Nat.le_trans (hwts hw).1 hreach,by rw[Ee];trivial⟩
   ·simp only[List.cons.injEq,and_true] at e3;subst e3;rw[Gc] at hcell;have hP:∀i,i<len->∃v,∃cs',w.cells? 0 (a.add (i*4)) 4=some cs'∧IsV Cr w v cs'∧((x3.1.weights Tryz.prog 22).all (·<=reachBytes)=true->SzV v):=by
     intro i hi;obtain⟨z,hz⟩:∃z,elems[i]?=some z:=⟨_,List.getElem?_eq_getElem (by omega)⟩;have hb:=hcell i hi;rw[hz,Option.bind_eq_some_iff] at hb;obtain⟨cs',h1,h2⟩:=hb;obtain⟨v,h3,h4⟩:=ih n' (by omega) cs' z h2;refine⟨v,cs',h1,h3,fun hw=>h4 ?_⟩;rw[e3'] at hw;simp only[DataW.weights,Tryz.underlying22,List.all_cons,List.all_append,Bool.and_eq_true] at hw;rw[List.all_eq_true];intro q hq;exact List.all_eq_true.1 hw.2.1 q (weightsAll_mem (List.mem_map.2 ⟨z,List.mem_of_getElem? hz,rfl⟩) q hq)
    obtain⟨l,hl,hall⟩:=K5 len hP;obtain⟨c,hc⟩:∃c:Nat->List Value,∀i,c i=(w.cells? 0 (a.add (i*4)) 4).getD []:=⟨_,fun _=>rfl⟩;have hci:∀i,i<len->w.cells? 0 (a.add (i*4)) 4=some (c i)∧∃v,l[i]?=some v∧IsV Cr w v (c i):=by
     intro i hi;obtain⟨v,hv⟩:∃v,l[i]?=some v:=⟨_,List.getElem?_eq_getElem (by omega)⟩;obtain⟨cs',h1,h2,_⟩:=hall i v hv;have e:c i=cs':=by rw[hc,h1];rfl
     rw[e];exact⟨h1,v,hv,h2⟩
    have hc4:∀i,i<len->(c i).length=4:=fun i hi=>(Fw (hci i hi).1).1
    have hvs:Al Cr w l (.slice (some a) len cap):=by
     subst hl;refine⟨(List.range l.length).flatMap c,⟨Fe _ c hc4,?_⟩,Fv l c (fun i v hi=>?_)⟩
     ·by_cases h0:l.length=0
      ·exact Or.inl ⟨Or.inr ⟨a,cap,by rw[h0],hcm⟩,h0⟩
      ·obtain⟨b,o,sp⟩:=a;have hfirst:=(Fw (hci 0 (by omega)).1).2;obtain⟨u0,hu0⟩:∃u,(c 0)[0]?=some u:=⟨_,List.getElem?_eq_getElem (by rw[hc4 0 (by omega)];omega)⟩;have hz0:=hfirst 0 u0 hu0;have hspn:sp=none:=by simpa [Addr.add] using World.cell?_spot hz0
       subst hspn;refine Or.inr ⟨b,o,cap,rfl,hlc,hcm,trivial,?_,fun j u hj=>?_⟩
       ·rw[A6,A6] at hz0;exact World.block_lt_of_cell? w _ hz0
       ·obtain⟨g1,g2⟩:=Gs _ c j u hc4 hj;have:=(Fw (hci (j / 4) g1).1).2 (j % 4) u g2;rw[A6,A6] at this;rw[show o+j=o+j / 4*4+j % 4 by omega];exact this
     ·obtain⟨_,v',hv',hi'⟩:=hci i (List.getElem?_eq_some_iff.1 hi).1;rw[hi] at hv';cases hv';exact hi'
    refine⟨.mk k m s.data.toList l,At.2 ⟨.slice (some a) len cap,?_,hsl,De w0,De w1,hvs⟩,fun hw=>?_⟩
    ·simp[V.k,V.n,V.t]
    ·rw[SzV];refine⟨Nat.le_trans (hwts hw).1 hreach,Gd fun x hx=>?_⟩;obtain⟨i,hi⟩:=List.mem_iff_getElem?.1 hx;obtain⟨_,_,_,h5⟩:=hall i x hi;exact h5 (hwts hw).2
theorem own:ownKnob Tryz.prog.godebug=none:=by kernel_rfl
theorem laidOut:laidOutB Tryz.prog=true:=by kernel_rfl
theorem weights_at{H:Type}{ts:List TypeId}{ds:List (DataW H)}{j:Nat}{t:TypeId}{d:DataW H}(h:(DataW.weightsEach Tryz.prog ts ds).all (·<=reachBytes)=true)(h1:ts[j]?=some t)(h2:ds[j]?=some d):(d.weights Tryz.prog t).all (·<=reachBytes)=true:=by
 rw[List.all_eq_true];intro n hn;exact List.all_eq_true.1 h n (DataW.weights_mem_each h1 h2 n hn)
theorem Eq{H:Type}{enc:TypeId × Value->H}{w:World}(fuel:Nat)(cs:List Value)(x:DataW H × List MemPlace)(h:DataW.trod enc Tryz.prog w 0 (fun _=>true) true fuel 22 cs=some x):∃(l:List V) (ao:Option Addr) (cap:Nat),cs=[.slice ao l.length cap]∧Al Cr w l (.slice ao l.length cap)∧((x.1.weights Tryz.prog 22).all (·<=reachBytes)=true->∀y∈l,SzV y):=by
 rcases DataW.trod_slice Tryz.underlying22 h with⟨e3,e3'⟩ | ⟨a,len,cap,elems,rest,n',rfl,e3,e3',_,hlc,hcm,hel,hcell,_,_⟩
 ·exact⟨[],none,0,e3,Al.nil,fun _ y hy=>by simp at hy⟩
 ·rw[Gc] at hcell;have hP:∀i,i<len->∃v,∃cs',w.cells? 0 (a.add (i*4)) 4=some cs'∧IsV Cr w v cs'∧((x.1.weights Tryz.prog 22).all (·<=reachBytes)=true->SzV v):=by
   intro i hi;obtain⟨z,hz⟩:∃z,elems[i]?=some z:=⟨_,List.getElem?_eq_getElem (by omega)⟩;have hb:=hcell i hi;rw[hz,Option.bind_eq_some_iff] at hb;obtain⟨cs',h1,h2⟩:=hb;obtain⟨v,h3,h4⟩:=Mp n' cs' z h2;refine⟨v,cs',h1,h3,fun hw=>h4 ?_⟩;rw[e3'] at hw;simp only[DataW.weights,Tryz.underlying22,List.all_cons,List.all_append,Bool.and_eq_true] at hw;rw[List.all_eq_true];intro q hq;exact List.all_eq_true.1 hw.2.1 q (weightsAll_mem (List.mem_map.2 ⟨z,List.mem_of_getElem? hz,rfl⟩) q hq)
  obtain⟨l,hl,hall⟩:=K5 len hP;obtain⟨c,hc⟩:∃c:Nat->List Value,∀i,c i=(w.cells? 0 (a.add (i*4)) 4).getD []:=⟨_,fun _=>rfl⟩;have hci:∀i,i<len->w.cells? 0 (a.add (i*4)) 4=some (c i)∧∃v,l[i]?=some v∧IsV Cr w v (c i):=by
   intro i hi;obtain⟨v,hv⟩:∃v,l[i]?=some v:=⟨_,List.getElem?_eq_getElem (by omega)⟩;obtain⟨cs',h1,h2,_⟩:=hall i v hv;have e:c i=cs':=by rw[hc,h1];rfl
   rw[e];exact⟨h1,v,hv,h2⟩
  have hc4:∀i,i<len->(c i).length=4:=fun i hi=>(Fw (hci i hi).1).1
  have hvs:Al Cr w l (.slice (some a) len cap):=by
   subst hl;refine⟨(List.range l.length).flatMap c,⟨Fe _ c hc4,?_⟩,Fv l c (fun i v hi=>?_)⟩
   ·by_cases h0:l.length=0
    ·exact Or.inl ⟨Or.inr ⟨a,cap,by rw[h0],hcm⟩,h0⟩
    ·obtain⟨b,o,sp⟩:=a;have hfirst:=(Fw (hci 0 (by omega)).1).2;obtain⟨u0,hu0⟩:∃u,(c 0)[0]?=some u:=⟨_,List.getElem?_eq_getElem (by rw[hc4 0 (by omega)];omega)⟩;have hz0:=hfirst 0 u0 hu0;have hspn:sp=none:=by simpa [Addr.add] using World.cell?_spot hz0
     subst hspn;refine Or.inr ⟨b,o,cap,rfl,hlc,hcm,trivial,?_,fun j u hj=>?_⟩
     ·rw[A6,A6] at hz0;exact World.block_lt_of_cell? w _ hz0
     ·obtain⟨g1,g2⟩:=Gs _ c j u hc4 hj;have:=(Fw (hci (j / 4) g1).1).2 (j % 4) u g2;rw[A6,A6] at this;rw[show o+j=o+j / 4*4+j % 4 by omega];exact this
   ·obtain⟨_,v',hv',hi'⟩:=hci i (List.getElem?_eq_some_iff.1 hi).1;rw[hi] at hv';cases hv';exact hi'
  refine⟨l,some a,cap,by rw[e3,hl],by rw[hl];exact hvs,fun hw y hy=>?_⟩;obtain⟨i,hi⟩:=List.mem_iff_getElem?.1 hy;obtain⟨_,_,_,h5⟩:=hall i y hi;exact h5 hw
end
section
open Go.RowKit
def Kb(g m:Nat)(w:World)(v:V)(r:Ending)(w':World):Prop:=
 (if m+wt v<=16384 then r=.returned (.bool false)∧w'.heap[g]?=some (.cells #[iv ((m+wt v:Nat):Int)] 3 (0,0)) else r=.returned (.bool true))∧But g w w'
theorem M0:∀(N:Nat) (v:V) (ao:Option Addr) (cap:Nat) (g m:Nat) (w:World),wt v<N->SzV v->m<=16384->IsW (fun k=>k≠g) w v (.slice ao v.l.length cap)->w.heap[g]?=some (.cells #[iv (m:Int)] 3 (0,0)) ->
  Calls Tryz.prog 20 #[.agg #[iv v.k,iv v.n,bz v.t,.slice ao v.l.length cap],pt g 0] w fun r w'=>Kb g m w v r w':=by
 intro N;induction N with
 | zero=>intro v ao cap g m w h;omega
 | succ N ih=>
  intro v ao cap g m w hN hsv hm hv hg;obtain⟨ao',cap',e,c1,c2⟩:=hv.vs.slice;simp only[Value.slice.injEq] at e;obtain⟨rfl,-,rfl⟩:=e;have hwt:=Bw v;obtain⟨hst,hsl⟩:=(Xx v).1 hsv;obtain⟨w0,hW,hb0,hsz,d0,d1,d2,d3⟩:=Aw w v (.slice ao v.l.length cap);have hgl:g<w.heap.size:=(Array.getElem?_eq_some_iff.1 hg).1;have hg0:w0.heap[g]?=some (.cells #[iv (m:Int)] 3 (0,0)):=(hb0.block g hgl).trans hg;have k0:=Ap hg0;have f0:w0.frozen? ⟨g,0,none⟩=false:=by simp[World.frozen?,hg0]
  have IH:Hid (∀(v:V) (ao:Option Addr) (cap:Nat) (g m:Nat) (w:World),wt v<N->SzV v->m<=16384->IsW (fun k=>k≠g) w v (.slice ao v.l.length cap)->w.heap[g]?=some (.cells #[iv (m:Int)] 3 (0,0)) ->
   Calls Tryz.prog 20 #[.agg #[iv v.k,iv v.n,bz v.t,.slice ao v.l.length cap],pt g 0] w fun r w'=>Kb g m w v r w'):=ih
  clear ih;go_enter Tryz.func20,Tryz.ntmps20;go_wp2_with fail
  go_region
  obtain⟨w1,hW1⟩:∃w1,(w0.setCell ⟨g,0,none⟩ (iv ((m:Int)+(1+(v.t.length:Int))))).drew=w1:=⟨_,rfl⟩;rw[hW1];have hB1:But g w w1:=by
   rw[<-hW1];exact ((But.of hb0).trans (But.set _)).drew
  have hg1:w1.heap[g]?=some (.cells #[iv ((m+1+v.t.length:Nat):Int)] 3 (0,0)):=by
   rw[<-hW1];have:=Ax hg0 0 (iv ((m:Int)+(1+(v.t.length:Int))));have e:((m+1+v.t.length:Nat):Int)=(m:Int)+(1+(v.t.length:Int)):=by omega
   rw[e];exact this
  have e3:w1.cell? ⟨w.heap.size,3,none⟩=some (.slice ao v.l.length cap):=by
   rw[<-hW1];show (w0.setCell ⟨g,0,none⟩ _).cell? ⟨w.heap.size,3,none⟩=_;rw[World.cell?_of_block (w:=w0) (Below.heap_setCell _ _ _ _ (by show w.heap.size≠g;omega))];exact d3
  have k1:=Ap hg1;have hgl1:g<w1.heap.size:=(Array.getElem?_eq_some_iff.1 hg1).1;clear hW1 hW d0 d1 d2 d3 k0 f0 hg0;simp only[Exit.then];refine ‹∀(a:Act) (w:World),_->_› _ _ ?_;by_cases hbig:16384<m+1+v.t.length
  ·have hbigI:(16384:Int)<((m+1+v.t.length:Nat):Int):=by omega
   have hfin:Kb g m w v (.returned (.bool true)) w1:=⟨by rw[if_neg (by omega)],hB1⟩;clear hg1 hg hv hsl;generalize ((m+1+v.t.length:Nat):Int)=z at *;go_wp2;go_ret;exact hfin
  ·have hbigI:¬(16384:Int)<((m+1+v.t.length:Nat):Int):=by omega
   have hround:∀(q mq:Nat) (wr:World),q<v.l.length->But g w wr->mq<=16384->wr.heap[g]?=some (.cells #[iv (mq:Int)] 3 (0,0)) ->
     ∃x gx o ax cx,v.l[q]?=some x∧ao=some ⟨gx,o,none⟩∧gx<wr.heap.size∧wr.cell? ⟨gx,o+q*4,none⟩=some (iv x.k)∧wr.cell? ⟨gx,o+q*4+1,none⟩=some (iv x.n)∧wr.cell? ⟨gx,o+q*4+2,none⟩=some (bz x.t)∧wr.cell? ⟨gx,o+q*4+3,none⟩=some (.slice ax x.l.length cx) ∧
      ∀w2,Below wr.heap.size wr w2->Calls Tryz.prog 20 #[.agg #[iv x.k,iv x.n,bz x.t,.slice ax x.l.length cx],pt g 0] w2 fun r w'=>Kb g mq w2 x r w':=by
    intro q mq wr hq hB hmq hgr;have hx:v.l[q]?=some v.l[q]:=List.getElem?_eq_getElem hq;obtain⟨gx,o,ax,cx,e,_,hgx,c0,c1,c2,c3,hw⟩:=(hv.vs.since hB.since).get hx;refine⟨v.l[q],gx,o,ax,cx,hx,e,hgx,c0,c1,c2,c3,fun w2 hb2=>?_⟩;have:=Df hx;exact IH.out _ _ _ g mq w2 (by omega) (hsl.mem (List.getElem_mem hq)) hmq (hw.below hb2) ((hb2.block g (Array.getElem?_eq_some_iff.1 hgr).1).trans hgr)
   clear IH hv hsl hg;go_wp2_with fail
   go_loopg [23] v.l.length (fun gh i wr=>∃q:Nat,q<=v.l.length∧gh=v.l.length - q∧i=iv q∧m+1+v.t.length+wts (v.l.take q)<=16384∧Hid (wr.heap[g]?=some (.cells #[iv ((m+1+v.t.length+wts (v.l.take q):Nat):Int)] 3 (0,0)))∧But g w wr)
   case atStart=>exact⟨0,by omega,rfl,rfl,by simp[wts];omega,by show w1.heap[g]?=_;simpa [wts] using hg1,hB1⟩
   case round=>
    clear hg1 hB1 k1 hgl1 e3;obtain⟨q,hq,rfl,rfl,hmq,HG,hB⟩:=hrel;by_cases hlt:q<v.l.length
    ·obtain⟨x,gx,o,ax,cx,hx,rfl,hgx,c0,c1,c2,c3,hcall⟩:=hround q _ wr hlt hB hmq HG.out;have hltI:(q:Int)<(v.l.length:Int):=by omega
     have hs:=C8 hx;have hs2:=Dw v.l (q+1);have hba:Below wr.heap.size wr (wr.alloc (.cells #[iv x.k,iv x.n,bz x.t,.slice ax x.l.length cx] 31)):=(Below.refl _ _).alloc (Nat.le_refl _) _;replace hcall:=hcall _ hba;clear hround hx HG;by_cases hfit:m+1+v.t.length+wts (v.l.take q)+wt x<=16384
     ·go_wp2_with fail
      refine hcall.mono ?_;rintro e w3 ⟨h3,hb3⟩;rw[if_pos hfit] at h3;obtain⟨rfl,hg3⟩:=h3;have HG3:Hid (w3.heap[g]?=some (.cells #[iv ((m+1+v.t.length+wts (v.l.take (q+1)):Nat):Int)] 3 (0,0))):=by
       show _=_;rw[hs,<-Nat.add_assoc];exact hg3
      have hB3:But g w w3:=hB.trans ((But.of hba).trans hb3);have hle3:m+1+v.t.length+wts (v.l.take (q+1))<=16384:=by omega
      clear hcall hg3 hs hs2 hfit;go_wp2_with fail;go_roundg (v.l.length - (q+1))
      case measure=>omega
      case rel=>exact⟨q+1,by omega,rfl,by go_num,hle3,HG3,hB3⟩
     ·go_wp2_with fail
      refine hcall.mono ?_;rintro e w3 ⟨h3,hb3⟩;rw[if_neg hfit] at h3;subst h3;have hB3:But g w w3:=hB.trans ((But.of hba).trans hb3);have hfin:Kb g m w v (.returned (.bool true)) w3:=⟨by rw[if_neg (by omega)],hB3⟩;clear hcall hs hs2 hfit;go_wp2;go_ret;exact hfin
    ·have hltI:¬(q:Int)<(v.l.length:Int):=by omega
     have hqe:q=v.l.length:=by omega
     have hfin:Kb g m w v (.returned (.bool false)) wr:=by
      have h1:=HG.out;rw[hqe,List.take_length] at h1 hmq;have e:m+1+v.t.length+wts v.l=m+wt v:=by omega
      rw[e] at h1 hmq;exact⟨by rw[if_pos hmq];exact⟨rfl,h1⟩,hB⟩
     clear hround HG hqe;go_wp2;go_ret;exact hfin
end
end Go.Proofs.YtnijcolomoobnaaGreatDoor
