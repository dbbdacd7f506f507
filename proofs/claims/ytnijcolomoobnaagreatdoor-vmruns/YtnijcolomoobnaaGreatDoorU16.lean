/- Texts of ours, joined. -/
import Derived.Test.YtnijcolomoobnaaGreatDoorU07
import Derived.Test.YtnijcolomoobnaaGreatDoorU10
set_option linter.unusedVariables false
set_option linter.unusedSimpArgs false
set_option maxRecDepth 100000
set_option maxHeartbeats 16000000
namespace Go.Proofs.YtnijcolomoobnaaGreatDoor
section
open Go.ChangeShapes Go.WideShapes Go.ChangeAt Go.RowKit
theorem T2{w:World}{a:Addr}{cs:List Value}(h:w.cells? 0 a 2=some cs):cs.length=2∧∀r u,cs[r]?=some u->w.cell? (a.add r)=some u:=by
 simp only[World.cells?,Nat.zero_le,if_true] at h;simp only[List.range_succ,List.range_zero,List.nil_append,List.cons_append,List.mapM_cons,List.mapM_nil,Option.bind_eq_bind,Option.pure_def] at h;simp only[Option.bind_eq_some_iff,Option.some.injEq] at h;obtain⟨c0,h0,r0,⟨c1,h1,_,rfl,rfl⟩,rfl⟩:=h;refine⟨rfl,fun r u hr=>?_⟩;have:=(List.getElem?_eq_some_iff.1 hr).1;simp only[List.length_cons,List.length_nil] at this;have hc:r=0∨r=1:=by omega
 rcases hc with rfl | rfl <;> (simp at hr;subst hr;assumption)
theorem Og{w:World}{a:Addr}{cs:List Value}(h:w.cells? 0 a 5=some cs):cs.length=5∧∀r u,cs[r]?=some u->w.cell? (a.add r)=some u:=by
 simp only[World.cells?,Nat.zero_le,if_true] at h;simp only[List.range_succ,List.range_zero,List.nil_append,List.cons_append,List.mapM_cons,List.mapM_nil,Option.bind_eq_bind,Option.pure_def] at h;simp only[Option.bind_eq_some_iff,Option.some.injEq] at h;obtain⟨c0,h0,r0,⟨c1,h1,r1,⟨c2,h2,r2,⟨c3,h3,r3,⟨c4,h4,_,rfl,rfl⟩,rfl⟩,rfl⟩,rfl⟩,rfl⟩:=h;refine⟨rfl,fun r u hr=>?_⟩;have:=(List.getElem?_eq_some_iff.1 hr).1;simp only[List.length_cons,List.length_nil] at this;have hc:r=0∨r=1∨r=2∨r=3∨r=4:=by omega
 rcases hc with rfl | rfl | rfl | rfl | rfl <;> (simp at hr;subst hr;assumption)
theorem I8{α:Type}{P:Nat->α->Prop}:∀(n:Nat),(∀i,i<n->∃v,P i v)->∃l:List α,l.length=n∧∀i v,l[i]?=some v->P i v
 | 0,h=>⟨[],rfl,fun i v hi=>by simp at hi⟩
 | n+1,h=>by
  obtain⟨l,h1,h2⟩:=I8 n (fun i hi=>h i (by omega));obtain⟨v,hv⟩:=h n (by omega);refine⟨l ++ [v],by simp[h1],fun i x hi=>?_⟩;by_cases hlt:i<n
  ·rw[List.getElem?_append_left (by omega)] at hi;exact h2 i x hi
  ·have hlen:=(List.getElem?_eq_some_iff.1 hi).1;simp[h1] at hlen;have:i=n:=by omega
   subst this;rw[List.getElem?_append_right (by omega),h1] at hi;simp at hi;subst hi;exact hv
theorem J8:∀l:List In,(l.flatMap Be).length=l.length*2
 | []=>rfl
 | a :: r=>by
  have:=J8 r;simp only[List.flatMap_cons,List.length_append,this,List.length_cons,Be,List.length_nil];omega
theorem J9:∀{l:List In} {j:Nat} {u:Value},(l.flatMap Be)[j]?=some u->∃x,l[j / 2]?=some x∧(Be x)[j % 2]?=some u
 | [],j,u,h=>by simp at h
 | a :: r,0,u,h=>⟨a,rfl,by simpa [Be] using h⟩
 | a :: r,1,u,h=>⟨a,rfl,by simpa [Be] using h⟩
 | a :: r,j+2,u,h=>by
  have e:((a :: r).flatMap Be)=iv a.op :: iv a.a :: (r.flatMap Be):=by simp[Be]
  rw[e] at h;obtain⟨x,h1,h2⟩:=J9 (l:=r) (j:=j) (u:=u) (by simpa using h);exact⟨x,by rw[show (j+2) / 2=j / 2+1 by omega];simpa using h1,by rw[show (j+2) % 2=j % 2 by omega];exact h2⟩
theorem Pm:Tryz.prog.cellsOf 48=2:=by kernel_rfl
theorem Pn:Tryz.prog.cellsOf 52=5:=by kernel_rfl
theorem Wi:Tryz.prog.cellsOf 25=2:=by kernel_rfl
theorem T3:Tryz.prog.cellsOf 50=1:=by kernel_rfl
theorem T4:Tryz.prog.cellsOf 23=1:=by kernel_rfl
theorem Wj:Tryz.prog.bytesOf 48=16:=by kernel_rfl
theorem Wl:Tryz.prog.bytesOf 31=56:=by kernel_rfl
theorem Wm:∃f0 f1:Field,Tryz.prog.underlying 48=some (.struct #[f0,f1])∧f0.type=3∧f0.offset=0∧f1.type=3∧f1.offset=1:=⟨_,_,Tryz.underlying48,rfl,rfl,rfl,rfl⟩
theorem Wn:∃f0 f1 f2 f3 f4:Field,Tryz.prog.underlying 52=some (.struct #[f0,f1,f2,f3,f4])∧f0.type=3∧f0.offset=0∧f1.type=3∧f1.offset=1∧f2.type=3∧f2.offset=2∧f3.type=3∧f3.offset=3∧f4.type=50∧f4.offset=4:=⟨_,_,_,_,_,Tryz.underlying52,rfl,rfl,rfl,rfl,rfl,rfl,rfl,rfl,rfl,rfl⟩
theorem Wo:∃f0 f1:Field,Tryz.prog.underlying 25=some (.struct #[f0,f1])∧f0.type=22∧f0.offset=0∧f1.type=23∧f1.offset=1:=⟨_,_,Tryz.underlying25,rfl,rfl,rfl,rfl⟩
theorem Jq{H:Type}{enc:TypeId × Value->H}{w:World}(fuel:Nat)(cs:List Value)(x:DataW H × List MemPlace)(h:DataW.trod enc Tryz.prog w 0 (fun _=>true) true fuel 48 cs=some x):∃i:In,cs=Be i∧InR i.op∧InR i.a:=by
 obtain⟨f0,f1,hst,t0,o0,t1,o1⟩:=Wm;obtain⟨xs,n,rfl,rfl,hlen,hxl,hf⟩:=DataW.trod_struct hst h;rw[Pm] at hlen;have hx2:xs.length=2:=hxl
 match cs,hlen,xs,hx2,hf with
 | [c0,c1],_,[x0,x1],_,hf=>
  have g0:=hf 0 f0 rfl;have g1:=hf 1 f1 rfl;rw[t0,o0,B2] at g0;rw[t1,o1,B2] at g1;simp only[List.drop_zero,List.drop_succ_cons,List.take_succ_cons,List.take_zero,List.getElem?_cons_zero,List.getElem?_cons_succ] at g0 g1;obtain⟨k,e0,-,w0⟩:=DataW.trod_int Tryz.underlying3 g0;obtain⟨m,e1,-,w1⟩:=DataW.trod_int Tryz.underlying3 g1;simp only[List.cons.injEq,and_true] at e0 e1;subst e0 e1;exact⟨⟨k,m⟩,rfl,De w0,De w1⟩
abbrev Far(n:Nat):Prop:=n<=140737488355328
theorem I9{H:Type}{enc:TypeId × Value->H}{w:World}(fuel:Nat)(cs:List Value)(x:DataW H × List MemPlace)(h:DataW.trod enc Tryz.prog w 0 (fun _=>true) true fuel 50 cs=some x):∃(l:List In) (ao:Option Addr) (cap:Nat),cs=[.slice ao l.length cap]∧IsIs Cr w l (.slice ao l.length cap)∧((x.1.weights Tryz.prog 50).all (·<=reachBytes)=true->Far l.length):=by
 rcases DataW.trod_slice Tryz.underlying50 h with⟨e3,e3'⟩ | ⟨a,len,cap,elems,rest,n',rfl,e3,e3',_,hlc,hcm,hel,hcell,_,_⟩
 ·exact⟨[],none,0,e3,⟨⟨rfl,Or.inl ⟨Or.inl rfl,rfl⟩⟩,fun i hi=>by simp at hi⟩,fun _=>Nat.zero_le _⟩
 ·rw[Pm] at hcell;have hP:∀i,i<len->∃v:In,w.cells? 0 (a.add (i*2)) 2=some (Be v)∧InR v.op∧InR v.a:=by
   intro i hi;obtain⟨z,hz⟩:∃z,elems[i]?=some z:=⟨_,List.getElem?_eq_getElem (by omega)⟩;have hb:=hcell i hi;rw[hz,Option.bind_eq_some_iff] at hb;obtain⟨cs',h1,h2⟩:=hb;obtain⟨v,rfl,h4⟩:=Jq n' cs' z h2;exact⟨v,h1,h4⟩
  obtain⟨l,hl,hall⟩:=I8 len hP;refine⟨l,some a,cap,by rw[e3,hl],⟨?_,fun i hi=>?_⟩,fun hw=>?_⟩
  ·rw[hl];refine⟨by rw[J8,hl],?_⟩;by_cases h0:len=0
   ·exact Or.inl ⟨Or.inr ⟨a,cap,by rw[h0],hcm⟩,h0⟩
   ·obtain⟨b,o,sp⟩:=a;obtain⟨x0,hx0⟩:∃x0,l[0]?=some x0:=⟨_,List.getElem?_eq_getElem (by omega)⟩;have hz0:=(T2 (hall 0 x0 hx0).1).2 0 _ rfl;have hspn:sp=none:=by simpa [Addr.add] using World.cell?_spot hz0
    subst hspn;refine Or.inr ⟨b,o,cap,rfl,hlc,hcm,trivial,?_,fun j u hj=>?_⟩
    ·rw[A6,A6] at hz0;exact World.block_lt_of_cell? w _ hz0
    ·obtain⟨y,g1,g2⟩:=J9 hj;have:=(T2 (hall (j / 2) y g1).1).2 (j % 2) u g2;rw[A6,A6] at this;rw[show o+j=o+j / 2*2+j % 2 by omega];exact this
  ·obtain⟨k,hk⟩:=List.mem_iff_getElem?.1 hi;exact (hall k i hk).2
  ·rw[e3'] at hw;simp only[DataW.weights,Tryz.underlying50,List.all_cons,Bool.and_eq_true,decide_eq_true_eq,Wj,List.length_map] at hw;have:=hw.1;unfold reachBytes at this;show l.length<=140737488355328;omega
theorem K6{H:Type}{enc:TypeId × Value->H}{w:World}(fuel:Nat)(cs:List Value)(x:DataW H × List MemPlace)(h:DataW.trod enc Tryz.prog w 0 (fun _=>true) true fuel 52 cs=some x):∃f:Fu,F1 Cr w f cs∧((x.1.weights Tryz.prog 52).all (·<=reachBytes)=true->Far f.code.length):=by
 obtain⟨f0,f1,f2,f3,f4,hst,t0,o0,t1,o1,t2,o2,t3,o3,t4,o4⟩:=Wn;obtain⟨xs,n,rfl,rfl,hlen,hxl,hf⟩:=DataW.trod_struct hst h;rw[Pn] at hlen;have hx5:xs.length=5:=hxl
 match cs,hlen,xs,hx5,hf with
 | [c0,c1,c2,c3,c4],_,[x0,x1,x2,x3,x4],_,hf=>
  have g0:=hf 0 f0 rfl;have g1:=hf 1 f1 rfl;have g2:=hf 2 f2 rfl;have g3:=hf 3 f3 rfl;have g4:=hf 4 f4 rfl;rw[t0,o0,B2] at g0;rw[t1,o1,B2] at g1;rw[t2,o2,B2] at g2;rw[t3,o3,B2] at g3;rw[t4,o4,T3] at g4;simp only[List.drop_zero,List.drop_succ_cons,List.take_succ_cons,List.take_zero,List.getElem?_cons_zero,List.getElem?_cons_succ] at g0 g1 g2 g3 g4;obtain⟨a0,e0,rfl,w0⟩:=DataW.trod_int Tryz.underlying3 g0;obtain⟨a1,e1,rfl,w1⟩:=DataW.trod_int Tryz.underlying3 g1;obtain⟨a2,e2,rfl,w2⟩:=DataW.trod_int Tryz.underlying3 g2;obtain⟨a3,e3,rfl,w3⟩:=DataW.trod_int Tryz.underlying3 g3;obtain⟨l,ao,cap,e4,hi,hz⟩:=I9 n _ _ g4;simp only[List.cons.injEq,and_true] at e0 e1 e2 e3 e4;subst e0 e1 e2 e3 e4;refine⟨⟨a0,a1,a2,a3,l⟩,⟨ao,cap,rfl,De w0,De w1,De w2,De w3,hi⟩,fun hw=>hz ?_⟩;simp only[DataW.weights,hst,t0,t1,t2,t3,t4,List.map_cons,List.map_nil,DataW.weightsEach,List.nil_append,List.append_nil,List.cons_append,List.all_cons,List.all_append,Bool.and_eq_true,decide_eq_true_eq] at hw;exact hw
theorem G2{B:Nat->Prop}{w:World}:∀(l:List Fu) (c:Nat->List Value),(∀i v,l[i]?=some v->F1 B w v (c i))->Bj B w l ((List.range l.length).flatMap c)
 | [],c,h=>by simp[Bj]
 | a :: r,c,h=>by
  have ih:=G2 r (fun i=>c (i+1)) (fun i v hi=>h (i+1) v (by simpa using hi));rw[List.length_cons,List.range_succ_eq_map,List.flatMap_cons,List.flatMap_map,Bj];exact⟨c 0,_,rfl,h 0 a (by simp),ih⟩
theorem Fy:∀(n:Nat) (c:Nat->List Value),(∀i,i<n->(c i).length=5)->((List.range n).flatMap c).length=n*5
 | 0,c,h=>by simp
 | n+1,c,h=>by
  rw[List.range_succ,List.flatMap_append,List.length_append,Fy n c (fun i hi=>h i (by omega))];simp[h n (by omega)];omega
theorem Ja:∀(n:Nat) (c:Nat->List Value) (j:Nat) (u:Value),(∀i,i<n->(c i).length=5)->((List.range n).flatMap c)[j]?=some u->j / 5<n∧(c (j / 5))[j % 5]?=some u
 | 0,c,j,u,h,hj=>by simp at hj
 | n+1,c,j,u,h,hj=>by
  rw[List.range_succ,List.flatMap_append] at hj;have hl:=Fy n c (fun i hi=>h i (by omega));by_cases hlt:j<n*5
  ·rw[List.getElem?_append_left (by omega)] at hj;obtain⟨h1,h2⟩:=Ja n c j u (fun i hi=>h i (by omega)) hj;exact⟨by omega,h2⟩
  ·rw[List.getElem?_append_right (by omega),hl] at hj;simp only[List.flatMap_cons,List.flatMap_nil,List.append_nil] at hj;have hlen:=(List.getElem?_eq_some_iff.1 hj).1;rw[h n (by omega)] at hlen;have e1:j / 5=n:=by omega
   have e2:j % 5=j - n*5:=by omega
   rw[e1,e2];exact⟨by omega,hj⟩
theorem Jr{H:Type}{enc:TypeId × Value->H}{w:World}(fuel:Nat)(cs:List Value)(x:DataW H × List MemPlace)(h:DataW.trod enc Tryz.prog w 0 (fun _=>true) true fuel 23 cs=some x):∃(l:List Fu) (ao:Option Addr) (cap:Nat),cs=[.slice ao l.length cap]∧B5 Cr w l (.slice ao l.length cap)∧((x.1.weights Tryz.prog 23).all (·<=reachBytes)=true->∀f∈l,Far f.code.length):=by
 rcases DataW.trod_slice Tryz.underlying23 h with⟨e3,e3'⟩ | ⟨a,len,cap,elems,rest,n',rfl,e3,e3',_,hlc,hcm,hel,hcell,_,_⟩
 ·exact⟨[],none,0,e3,⟨[],⟨rfl,Or.inl ⟨Or.inl rfl,rfl⟩⟩,by rw[Bj]⟩,fun _ y hy=>by simp at hy⟩
 ·rw[Pn] at hcell;have hP:∀i,i<len->∃v:Fu,∃cs',w.cells? 0 (a.add (i*5)) 5=some cs'∧F1 Cr w v cs'∧((x.1.weights Tryz.prog 23).all (·<=reachBytes)=true->Far v.code.length):=by
   intro i hi;obtain⟨z,hz⟩:∃z,elems[i]?=some z:=⟨_,List.getElem?_eq_getElem (by omega)⟩;have hb:=hcell i hi;rw[hz,Option.bind_eq_some_iff] at hb;obtain⟨cs',h1,h2⟩:=hb;obtain⟨v,h3,h4⟩:=K6 n' cs' z h2;refine⟨v,cs',h1,h3,fun hw=>h4 ?_⟩;rw[e3'] at hw;simp only[DataW.weights,Tryz.underlying23,List.all_cons,List.all_append,Bool.and_eq_true] at hw;rw[List.all_eq_true];intro q hq;exact List.all_eq_true.1 hw.2.1 q (weightsAll_mem (List.mem_map.2 ⟨z,List.mem_of_getElem? hz,rfl⟩) q hq)
  obtain⟨l,hl,hall⟩:=I8 len hP;obtain⟨c,hc⟩:∃c:Nat->List Value,∀i,c i=(w.cells? 0 (a.add (i*5)) 5).getD []:=⟨_,fun _=>rfl⟩;have hci:∀i,i<len->w.cells? 0 (a.add (i*5)) 5=some (c i)∧∃v,l[i]?=some v∧F1 Cr w v (c i):=by
   intro i hi;obtain⟨v,hv⟩:∃v,l[i]?=some v:=⟨_,List.getElem?_eq_getElem (by omega)⟩;obtain⟨cs',h1,h2,_⟩:=hall i v hv;have e:c i=cs':=by rw[hc,h1];rfl
   rw[e];exact⟨h1,v,hv,h2⟩
  have hc5:∀i,i<len->(c i).length=5:=fun i hi=>(Og (hci i hi).1).1
  have hvs:B5 Cr w l (.slice (some a) len cap):=by
   subst hl;refine⟨(List.range l.length).flatMap c,⟨Fy _ c hc5,?_⟩,G2 l c (fun i v hi=>?_)⟩
   ·by_cases h0:l.length=0
    ·exact Or.inl ⟨Or.inr ⟨a,cap,by rw[h0],hcm⟩,h0⟩
    ·obtain⟨b,o,sp⟩:=a;have hfirst:=(Og (hci 0 (by omega)).1).2;obtain⟨u0,hu0⟩:∃u,(c 0)[0]?=some u:=⟨_,List.getElem?_eq_getElem (by rw[hc5 0 (by omega)];omega)⟩;have hz0:=hfirst 0 u0 hu0;have hspn:sp=none:=by simpa [Addr.add] using World.cell?_spot hz0
     subst hspn;refine Or.inr ⟨b,o,cap,rfl,hlc,hcm,trivial,?_,fun j u hj=>?_⟩
     ·rw[A6,A6] at hz0;exact World.block_lt_of_cell? w _ hz0
     ·obtain⟨g1,g2⟩:=Ja _ c j u hc5 hj;have:=(Og (hci (j / 5) g1).1).2 (j % 5) u g2;rw[A6,A6] at this;rw[show o+j=o+j / 5*5+j % 5 by omega];exact this
   ·obtain⟨_,v',hv',hi'⟩:=hci i (List.getElem?_eq_some_iff.1 hi).1;rw[hi] at hv';cases hv';exact hi'
  refine⟨l,some a,cap,by rw[e3,hl],by rw[hl];exact hvs,fun hw y hy=>?_⟩;obtain⟨i,hi⟩:=List.mem_iff_getElem?.1 hy;obtain⟨_,_,_,h5⟩:=hall i y hi;exact h5 hw
structure SzM(m:Md):Prop where
 con:∀v∈m.consts,SzV v∧Far v.l.length
 fun_:∀f∈m.funcs,Far f.code.length
theorem Wp{H:Type}{enc:TypeId × Value->H}{w:World}(fuel:Nat)(cs:List Value)(x:DataW H × List MemPlace)(h:DataW.trod enc Tryz.prog w 0 (fun _=>true) true fuel 31 cs=some x)(hw:(x.1.weights Tryz.prog 31).all (·<=reachBytes)=true)(v:V)(hv:IsV Cr w v cs):Far v.l.length:=by
 obtain⟨f0,f1,f2,f3,hst,t0,o0,t1,o1,t2,o2,t3,o3⟩:=Pl;obtain⟨xs,n,rfl,rfl,hlen,hxl,hf⟩:=DataW.trod_struct hst h;rw[Gc] at hlen;have hx4:xs.length=4:=hxl;obtain⟨sl,hcs,hW⟩:=At.1 hv;obtain⟨ao,cap,rfl,_,_⟩:=hW.vs.slice;subst hcs
 match xs,hx4,hf with
 | [x0,x1,x2,x3],_,hf=>
  have g3:=hf 3 f3 rfl;rw[t3,o3,E7] at g3;simp only[List.drop_zero,List.drop_succ_cons,List.take_succ_cons,List.take_zero,List.getElem?_cons_zero,List.getElem?_cons_succ] at g3;rcases DataW.trod_slice Tryz.underlying22 g3 with⟨e3,e3'⟩ | ⟨a,len,cap',elems,rest,n',rfl,e3,e3',_,hlc,hcm,hel,hcell,_,_⟩
  ·simp only[List.cons.injEq,Value.slice.injEq,and_true] at e3;show v.l.length<=_;omega
  ·simp only[List.cons.injEq,Value.slice.injEq,and_true] at e3;have h1:(x3.1.weights Tryz.prog 22).all (·<=reachBytes)=true:=by
    rw[List.all_eq_true] at hw ⊢;intro q hq;refine hw q ?_;simp only[DataW.weights,hst,t0,t1,t2,t3,List.map_cons,List.map_nil,DataW.weightsEach,List.append_nil];simp only[List.mem_append];exact Or.inr (Or.inr (Or.inr hq))
   rw[e3'] at h1;simp only[DataW.weights,Tryz.underlying22,List.all_cons,Bool.and_eq_true,decide_eq_true_eq,Wl,List.length_map] at h1;have:=h1.1;unfold reachBytes at this;show v.l.length<=140737488355328;omega
theorem Js{H:Type}{enc:TypeId × Value->H}{w:World}(fuel:Nat)(cs:List Value)(x:DataW H × List MemPlace)(h:DataW.trod enc Tryz.prog w 0 (fun _=>true) true fuel 22 cs=some x):∃(l:List V) (ao:Option Addr) (cap:Nat),cs=[.slice ao l.length cap]∧Al Cr w l (.slice ao l.length cap)∧((x.1.weights Tryz.prog 22).all (·<=reachBytes)=true->∀y∈l,SzV y∧Far y.l.length):=by
 have h0:=h;obtain⟨l,ao,cap,e1,e2,e4⟩:=Eq fuel cs x h0;refine⟨l,ao,cap,e1,e2,fun hw y hy=>⟨e4 hw y hy,?_⟩⟩;subst e1;rcases DataW.trod_slice Tryz.underlying22 h with⟨e3,e3'⟩ | ⟨a,len,cap',elems,rest,n',rfl,e3,e3',_,hlc,hcm,hel,hcell,_,_⟩
 ·simp only[List.cons.injEq,Value.slice.injEq,and_true] at e3;have:l=[]:=List.length_eq_zero_iff.1 e3.2.1;subst this;simp at hy
 ·rw[Gc] at hcell;simp only[List.cons.injEq,Value.slice.injEq,and_true] at e3;obtain⟨rfl,rfl,rfl⟩:=e3;obtain⟨i,hi⟩:=List.mem_iff_getElem?.1 hy;have hil:=(List.getElem?_eq_some_iff.1 hi).1;obtain⟨z,hz⟩:∃z,elems[i]?=some z:=⟨_,List.getElem?_eq_getElem (by omega)⟩;have hb:=hcell i hil;rw[hz,Option.bind_eq_some_iff] at hb;obtain⟨cs',h1,h2⟩:=hb;obtain⟨g,o,ax,cx,e,_,hg,c0,c1,c2,c3,hwy⟩:=e2.get hi;cases e;have hc:=Fw h1;have hcs':cs'=[iv y.k,iv y.n,bz y.t,.slice ax y.l.length cx]:=by
   obtain⟨hl4,hc2⟩:=hc
   match cs',hl4,hc2 with
   | [d0,d1,d2,d3],_,hc2=>
    have k0:=hc2 0 d0 rfl;have k1:=hc2 1 d1 rfl;have k2:=hc2 2 d2 rfl;have k3:=hc2 3 d3 rfl;rw[A6,A6] at k0 k1 k2 k3;rw[Nat.add_zero,c0] at k0;rw[c1] at k1;rw[c2] at k2;rw[c3] at k3;cases k0;cases k1;cases k2;cases k3;rfl
  refine Wp n' cs' z h2 ?_ y (At.2 ⟨_,hcs',hwy⟩);rw[e3'] at hw;simp only[DataW.weights,Tryz.underlying22,List.all_cons,List.all_append,Bool.and_eq_true] at hw;rw[List.all_eq_true];intro q hq;exact List.all_eq_true.1 hw.2.1 q (weightsAll_mem (List.mem_map.2 ⟨z,List.mem_of_getElem? hz,rfl⟩) q hq)
theorem mod_open{H:Type}{enc:TypeId × Value->H}{W:World}{base:Nat}{v:Value}{d:DataW H}{p:List MemPlace}(hv:Value.okWide Tryz.prog W .any base 25 v)(h:DataW.Trod enc Tryz.prog W 0 (fun _=>true) true 25 v d p) :
  ∃(m:Md) (ac:Option Addr) (cc:Nat) (af:Option Addr) (cf:Nat),v=.agg #[.slice ac m.consts.length cc,.slice af m.funcs.length cf]∧IsMd Cr W m (.slice ac m.consts.length cc) (.slice af m.funcs.length cf)∧((d.weights Tryz.prog 25).all (·<=reachBytes)=true->SzM m):=by
 obtain⟨f0,f1,hst,t0,o0,t1,o1⟩:=Wo;unfold Value.okWide at hv;rw[hst] at hv;obtain⟨cs,rfl,_,_⟩:=hv;obtain⟨fuel,hf⟩:=h;obtain⟨xs,n,rfl,e,hlen,hxl,hff⟩:=DataW.trod_struct hst hf;simp only[Prod.mk.injEq] at e;obtain⟨rfl,-⟩:=e;rw[Wi] at hlen;have hx2:xs.length=2:=hxl;have hcs:∃c0 c1,cs=#[c0,c1]:=by
  obtain⟨l⟩:=cs
  match l,hlen with
  | [c0,c1],_=>exact⟨c0,c1,rfl⟩
 obtain⟨c0,c1,rfl⟩:=hcs;clear hf
 match xs,hx2,hff with
 | [x0,x1],_,hf=>
  have g0:=hf 0 f0 rfl;have g1:=hf 1 f1 rfl;rw[t0,o0,E7] at g0;rw[t1,o1,T4] at g1;simp only[Value.cells,List.drop_zero,List.drop_succ_cons,List.take_succ_cons,List.take_zero,List.getElem?_cons_zero,List.getElem?_cons_succ] at g0 g1;obtain⟨l0,a0,k0,e0,hi0,hz0⟩:=Js n _ _ g0;obtain⟨l1,a1,k1,e1,hi1,hz1⟩:=Jr n _ _ g1;simp only[List.cons.injEq,and_true] at e0 e1;subst e0 e1;refine⟨⟨l0,l1⟩,a0,k0,a1,k1,rfl,⟨hi0,hi1⟩,fun hw=>?_⟩;simp only[DataW.weights,hst,t0,t1,List.map_cons,List.map_nil,DataW.weightsEach,List.append_nil,List.all_append,Bool.and_eq_true] at hw;exact⟨hz0 hw.1,hz1 hw.2⟩
theorem Ro:Tryz.prog.cellsOf 27=4:=by kernel_rfl
theorem Rp:∃f0 f1 f2 f3:Field,Tryz.prog.underlying 27=some (.struct #[f0,f1,f2,f3])∧f0.type=22∧f0.offset=0∧f1.type=22∧f1.offset=1∧f2.type=3∧f2.offset=2∧f3.type=3∧f3.offset=3:=⟨_,_,_,_,Tryz.underlying27,rfl,rfl,rfl,rfl,rfl,rfl,rfl,rfl⟩
theorem from_open{H:Type}{enc:TypeId × Value->H}{W:World}{base:Nat}{v:Value}{d:DataW H}{p:List MemPlace}(hv:Value.okWide Tryz.prog W .any base 27 v)(h:DataW.Trod enc Tryz.prog W 0 (fun _=>true) true 27 v d p) :
  ∃(s a:List V) (as_:Option Addr) (cs_:Nat) (aa:Option Addr) (ca:Nat) (n fuel:Int),v=.agg #[.slice as_ s.length cs_,.slice aa a.length ca,iv n,iv fuel]∧Al Cr W s (.slice as_ s.length cs_)∧Al Cr W a (.slice aa a.length ca)∧InR n∧InR fuel∧((d.weights Tryz.prog 27).all (·<=reachBytes)=true->Ee s∧Ee a):=by
 obtain⟨f0,f1,f2,f3,hst,t0,o0,t1,o1,t2,o2,t3,o3⟩:=Rp;unfold Value.okWide at hv;rw[hst] at hv;obtain⟨cs,rfl,_,_⟩:=hv;obtain⟨fuel,hf⟩:=h;obtain⟨xs,n,rfl,e,hlen,hxl,hff⟩:=DataW.trod_struct hst hf;simp only[Prod.mk.injEq] at e;obtain⟨rfl,-⟩:=e;rw[Ro] at hlen;have hx2:xs.length=4:=hxl;have hcs:∃c0 c1 c2 c3,cs=#[c0,c1,c2,c3]:=by
  obtain⟨l⟩:=cs
  match l,hlen with
  | [c0,c1,c2,c3],_=>exact⟨c0,c1,c2,c3,rfl⟩
 obtain⟨c0,c1,c2,c3,rfl⟩:=hcs;clear hf
 match xs,hx2,hff with
 | [x0,x1,x2,x3],_,hf=>
  have g0:=hf 0 f0 rfl;have g1:=hf 1 f1 rfl;have g2:=hf 2 f2 rfl;have g3:=hf 3 f3 rfl;rw[t0,o0,E7] at g0;rw[t1,o1,E7] at g1;rw[t2,o2,B2] at g2;rw[t3,o3,B2] at g3;simp only[Value.cells,List.drop_zero,List.drop_succ_cons,List.take_succ_cons,List.take_zero,List.getElem?_cons_zero,List.getElem?_cons_succ] at g0 g1 g2 g3;obtain⟨l0,a0,k0,e0,hi0,hz0⟩:=Eq n _ _ g0;obtain⟨l1,a1,k1,e1,hi1,hz1⟩:=Eq n _ _ g1;obtain⟨n2,e2,rfl,w2⟩:=DataW.trod_int Tryz.underlying3 g2;obtain⟨n3,e3,rfl,w3⟩:=DataW.trod_int Tryz.underlying3 g3;simp only[List.cons.injEq,and_true] at e0 e1 e2 e3;subst e0 e1 e2 e3;refine⟨l0,l1,a0,k0,a1,k1,n2,n3,rfl,hi0,hi1,De w2,De w3,fun hw=>?_⟩;simp only[DataW.weights,hst,t0,t1,t2,t3,List.map_cons,List.map_nil,DataW.weightsEach,List.append_nil,List.all_append,Bool.and_eq_true] at hw;exact⟨Gd (hz0 hw.1),Gd (hz1 hw.2)⟩
end
end Go.Proofs.YtnijcolomoobnaaGreatDoor
