/- Texts of ours, joined. -/
import Derived.Test.YtnijcolomoobnaaGreatDoorU40
set_option linter.unusedVariables false
set_option linter.unusedSimpArgs false
set_option maxRecDepth 100000
set_option maxHeartbeats 16000000
namespace Go.Proofs.YtnijcolomoobnaaGreatDoor
section
open Go.RowKit
attribute [local go_sem ↓] Go.wp_at_zero Go.wp_at_succ
theorem Uz{base p:Nat}{m:Md}{states:Int}(hr:Run m states)(hcon:Av m.consts){G:Nat}(ih:∀g,g<G->Ww base p m states g):Ww base p m states G:=by
 intro A cs fs ss n f H args sts aa ca fl o w hO hargs hpar hV hfl hrun;obtain⟨ac,cc,rfl,-,-⟩:=hO.md.con.slice;obtain⟨af,cf,rfl,-,-⟩:=hO.md.fun_.slice;have hn:=(List.getElem?_eq_some_iff.1 hV.hf).1;have hnI:(n:Int)<(m.funcs.length:Int):=by omega
 have hn0:(0:Int)<=(n:Int):=by omega
 obtain⟨w0,hW0,hb0,hl0,hx0⟩:=Co w;have hO0:=hO.keep hb0;obtain⟨gf,of,ak,ck,rfl,-,hgf,f0,f1,f2,f3,f4,hfn⟩:=hO0.md.fun_.get hV.hf;obtain⟨w1,hW1,hb1,hl1,hx1⟩:=U5 w0 (iv f.params) (iv f.locals) (iv f.zero) (iv f.stack) (.slice ak f.code.length ck) 52;obtain⟨c0,c1,c2,c3,c4,y0,y1,y2,y3,y4,hlp⟩:=Ak hO0.mc;have hB1:Below w.heap.size w w1:=hb0.trans (hb1.mono hb0.size);obtain⟨A1,hA1⟩:∃A1:Nat->Prop,A1=fun k=>A k∧k≠w.heap.size∧k≠w0.heap.size:=⟨_,rfl⟩
 have hA1i:∀k,A1 k↔A k∧k≠w.heap.size∧k≠w0.heap.size:=fun k=>by rw[hA1]
 have hA1A:∀k,A1 k->A k:=fun k h=>((hA1i k).1 h).1
 have hA1hi:∀k,w1.heap.size<=k->A1 k:=fun k hk=>(hA1i k).2 ⟨hO.hi k (by have:=hB1.size;omega),by omega,by omega⟩
 have hO1:VmO base p A1 m (.slice ac m.consts.length cc) (sL gf of m.funcs.length cf) ss sts fl 0 w1:=by
  have h1:VmO base p A m (.slice ac m.consts.length cc) (sL gf of m.funcs.length cf) ss sts fl 0 w:=hO;have h2:=h1.keep hB1;refine⟨h2.mc,?_,?_,h2.tb,h2.bp,h2.bs,fun hk=>h2.np ((hA1i _).1 hk).1,fun k e hk=>h2.ns k e ((hA1i _).1 hk).1,h2.sp,hA1hi⟩
  ·exact (h1.md.base (B':=A1) (fun k hk hl=>(hA1i k).2 ⟨hk,by omega,by omega⟩)).below hB1
  ·exact (h1.st.base (P':=fun k=>A1 k∨ss.ownBlock=some k) (fun k hk hl=>by
    rcases hk with hk | hk
    ·exact Or.inl ((hA1i k).2 ⟨hk,by omega,by omega⟩)
    ·exact Or.inr hk)).below hB1
 have hargs1:Al A1 w1 args (.slice aa args.length ca):=(hargs.base (B':=A1) (fun k hk hl=>(hA1i k).2 ⟨hk,by omega,by omega⟩)).below hB1;have hnum:=(hr.fun_ n f hV.hf).num;unfold A8 at hnum;have hal:args.length<=8:=by omega
 obtain⟨wa,a2,c2',w2,hWa,hr2,hG2,hb2,ho2⟩:=D8 hargs1 (by omega) hA1hi;have Hl1:Hid (w1.heap.size=w0.heap.size+1):=hl1;have hfl1:w0.heap.size<w1.heap.size:=by omega
 have hrl1:w.heap.size<w1.heap.size:=by omega
 have HO1:Hid (VmO base p A1 m (.slice ac m.consts.length cc) (sL gf of m.funcs.length cf) ss sts fl 0 w1):=hO1;obtain⟨q0,q1,q2,q3,q4,-,-,-,-,-,-⟩:=Ak hx1;have Hpad:Hid (f.locals.toNat=args.length+(f.locals.toNat - args.length)):=by show _=_;omega
 obtain⟨T,HT⟩:∃T:Nat,Hid (f.locals.toNat - args.length=T):=⟨_,rfl⟩;have HTl:Hid (f.locals=((args.length+T:Nat):Int)):=by have:=HT.out;show _=_;omega
 have hTs:T<=256:=by have:=HT.out;omega
 have Hx0:Hid _:=hx0;have hfn0:Hid (IsFn A w f (.slice ak f.code.length ck)):=by
  obtain⟨g',o',ak',ck',e',-,hgf',u0,u1,u2,u3,u4,hfn'⟩:=hO.md.fun_.get hV.hf;simp only[Option.some.injEq,Addr.mk.injEq,and_true] at e';obtain⟨rfl,rfl⟩:=e';have e5:=((Ag hb0).1 _ (of+n*5+4) hgf').trans u4;rw[f4] at e5;simp only[Option.some.injEq,Value.slice.injEq] at e5;obtain⟨rfl,-,rfl⟩:=e5;exact hfn'
 clear hargs hargs1 hx0 hl1 hO0 hO1 hA1hi hA1 hnum hfn;go_enter Tryz.func34,Tryz.ntmps34;go_wp2_with (at_builtin;refine Lib.wpList_append_run _ rfl _ _ 22 22 rfl _ _ rfl rfl _ _ hr2 ?_;clear hr2);clear hWa hW0 hW1 f0 f1 f2 f3 f4 c0 c1 c2 c3 c4 y0 y1 y2 y3 y4
 go_loopg [8] T (fun g s8 wr=>∃(j:Nat) (a8:Option Addr) (c8:Nat),j<=T∧g=T - j∧s8=.slice a8 (args.length+j) c8∧Hid (Gv A1 wr (.slice a8 (args.length+j) c8) (args ++ List.replicate j (nV 0)))∧Hid (∀k,(Value.slice a8 (args.length+j) c8).ownBlock=some k->w1.heap.size<=k)∧Below w1.heap.size w1 wr)
 case atStart=>exact⟨0,a2,c2',Nat.zero_le _,rfl,rfl,by show Gv _ _ _ _;simpa using hG2,ho2,hb2⟩
 case round=>
  obtain⟨j,a8,c8,hj,rfl,rfl,HG,Ho,hBr⟩:=hrel;have hgl:w0.heap.size<wr.heap.size:=by have:=hBr.size;omega
  have k1:wr.cell? ⟨w0.heap.size,1,none⟩=some (iv f.locals):=((Ag hBr).1 _ _ hfl1).trans q1;by_cases hlt:j<T
  ·have hltI:((args.length+j:Nat):Int)<f.locals:=by rw[HTl.out];omega
   go_wp2_with fail
   refine (B7 0 wr).mono ?_;rintro e w3 ⟨rfl,hb3⟩;have hG3:=HG.out.below hb3;obtain⟨wb,g4,c4,w4,hWb,hr4,hG4,hf4,ho4⟩:=C6 (x:=nV 0) (xs:=sZ) hG3 (Ym (by unfold InR;omega)) (by simp;omega) (fun k hk=>by have:=hBr.size;have:=hb3.size;exact HO1.out.hi k (by omega));have hl8:(args ++ List.replicate j (nV 0)).length=args.length+j:=by simp
   rw[hl8] at hr4 hG4;have HG4:Hid (Gv A1 w4 (.slice g4 (args.length+(j+1)) c4) (args ++ List.replicate (j+1) (nV 0))):=by
    show Gv _ _ _ _;rw[List.replicate_succ',<-List.append_assoc];exact hG4
   have hB4:Below w1.heap.size w1 w4:=(hBr.trans (hb3.mono hBr.size)).trans (hf4.below (by have:=hBr.size;have:=hb3.size;omega) (fun k hk e=>by have:=Ho.out k e;omega));have Ho4:Hid (∀k,(Value.slice g4 (args.length+(j+1)) c4).ownBlock=some k->w1.heap.size<=k):=by
    intro k hk;have hbs:=hBr.size;have hbs3:=hb3.size;rw[hl8] at ho4;rcases ho4 k hk with e | e
    ·exact Ho.out k e
    ·omega
   clear HG Ho hG3 hG4 hf4 hl8 hBr ho4;simp only[V.k,V.n,V.t,List.length_nil] at hWb;go_wp2_with (at_builtin;refine Lib.wpList_append_run _ rfl _ _ 22 22 rfl _ _ rfl rfl _ _ hr4 ?_;clear hr4);go_roundg (T - (j+1))
   case measure=>omega
   case rel=>exact⟨j+1,g4,c4,by omega,rfl,rfl,HG4,Ho4,hB4⟩
  ·have hltI:¬((args.length+j:Nat):Int)<f.locals:=by rw[HTl.out];omega
   have hje:j=T:=by omega
   subst hje;have hloc:args ++ List.replicate j (nV 0)=loc0 f args:=by unfold loc0;rw[HT.out]
   have hG:=HG.out;rw[hloc] at hG;obtain⟨ls,hls⟩:∃ls:Value,Value.slice a8 (args.length+j) c8=ls:=⟨_,rfl⟩;have hll:Hid (args.length+j=(loc0 f args).length):=by show _=_;rw[<-hloc];simp
   rw[hls] at hG;have hS:VmS base p A1 m (.slice ac m.consts.length cc) (sL gf of m.funcs.length cf) ss ls (loc0 f args) sts fl 0 wr:=HO1.out.enter hBr hG (by rw[<-hls];exact Ho.out);have hneA:∀k,k<w1.heap.size->ls.ownBlock≠some k:=fun k hk e=>by rw[<-hls] at e;have:=Ho.out k e;omega
   have hsl:∀k,ss.ownBlock=some k->k<w.heap.size:=fun k e=>(hO.st.lt e).2
   have hpl:=hO.mc.lt;have hF:VmF base p A1 m (.slice ac m.consts.length cc) (sL gf of m.funcs.length cf) ss ls f (.slice ak f.code.length ck) w.heap.size w0.heap.size (.cells #[iv 0,iv 0,.string ⟨#[]⟩,sZ] 31 (0,0)) (.cells #[iv f.params,iv f.locals,iv f.zero,iv f.stack,.slice ak f.code.length ck] 52 (0,0)) (loc0 f args) sts fl 0 wr:=by
    refine⟨hS,?_,?_,?_,fun h=>((hA1i _).1 h).2.1 rfl,fun h=>((hA1i _).1 h).2.2 rfl,by omega,by omega,fun e=>by have:=hsl _ e;omega,fun e=>by have:=hsl _ e;omega⟩
    ·exact ((hfn0.out.base (B':=Bq A1 ls) (fun k hk hl=>⟨(hA1i k).2 ⟨hk,by omega,by omega⟩,hneA k (by omega)⟩)).below hB1).below (hBr.mono (by have:=hB1.size;omega) |> fun h=>⟨h.os,h.tape,h.output,h.size,fun k hk=>hBr.block k hk⟩)
    ·exact (hBr.block _ hrl1).trans ((hb1.block _ hl0).trans Hx0.out)
    ·exact (hBr.block _ hfl1).trans hx1
   have hFr:Fr (fun k=>k≠p∧ss.ownBlock≠some k) w wr:=Fr.of_below (hB1.trans (hBr.mono hB1.size));have HneA:Hid (∀k,k<w.heap.size->ls.ownBlock≠some k):=fun k hk=>hneA k (by omega)
   have HF:Hid _:=hF;have HFr:Hid _:=hFr;have HV:Hid _:=hV;have Hrun:Hid _:=hrun;obtain⟨wo,hwo⟩:∃wo,wo=wr:=⟨_,rfl⟩;subst hwo;have hargl:args.length+j=(loc0 f args).length:=hll.out;obtain⟨nl,Hnl⟩:∃nl:Nat,Hid (args.length+j=nl):=⟨_,rfl⟩;have Hnl2:Hid ((nl:Int)=f.locals):=by have:=Hnl.out;show _=_;rw[HTl.out];omega
   rw[Hnl.out] at hls hltI ⊢;have Hls:Hid (Value.slice a8 nl c8=ls):=hls;clear hls;clear hF hFr hS hG hloc HG Ho hV hrun hll hargl hG2 ho2 hb2 q0 q1 q2 q3 q4 hBr HT HTl hTs Hpad hneA hsl hpl Hx0 hfn0 hx1 hb1 hb0 hB1 HO1 hlt hfl1 hrl1 hal;go_wp2_with fail;clear k1 hltI hgl
   go_loopg [9,10] G (fun g s9 s10 wr=>∃gg:Nat,g=gg∧gg<=G∧Hid (MR base p A1 m states (.slice ac m.consts.length cc) (sL gf of m.funcs.length cf) ss ls n f (.slice ak f.code.length ck) H w.heap.size w0.heap.size (.cells #[iv 0,iv 0,.string ⟨#[]⟩,sZ] 31 (0,0)) (.cells #[iv f.params,iv f.locals,iv f.zero,iv f.stack,.slice ak f.code.length ck] 52 (0,0)) o w gg s9 s10 wr))
   case atStart=>exact⟨G,rfl,Nat.le_refl _,⟨0,loc0 f args,[],sts,fl,0,none,0,rfl,rfl,HF.out,Al.nil,HFr.out,Or.inl ⟨rfl,HV.out,Hrun.out,hfl⟩⟩⟩
   case round=>
    obtain⟨gg,hgg,hle,HM⟩:=hrel;obtain⟨q,loc,stk,sts',fl',tr,a9,c9,rfl,rfl,hF,hsk,hFr,hcase⟩:=HM.out;obtain⟨c0,c1,c2,c3,c4,y0,y1,y2,y3,y4,hlp⟩:=Ak hF.s.mc;obtain⟨r0,r1,r2,r3,z0,z1,z2,z3⟩:=Aa hF.r;have hrl:=hF.rl;have hrp:=hF.rp;clear HM HF HFr HV Hrun;rcases hcase with⟨rfl,hV,hrun,hfl'⟩ | ⟨htr,ho1,ho2,ho3⟩
    ·rcases gg with _ | gg
     ·rw[vmRun] at hrun;cases hrun
     obtain⟨i,hi,hio,hl1,hl2,hp0,hp1,hh,hnx,hN⟩:=hV.ins (it:=it15) hr;rw[vmRun,hN] at hrun;obtain⟨hgo,hdone,hcall⟩:=N6 hrun;clear hrun;obtain⟨gi,oi,rfl,-,hgi,i0,i1,ir0,ir1⟩:=hF.fn.code.get hi;have hqI:(q:Int)<(f.code.length:Int):=by have:=(List.getElem?_eq_some_iff.1 hi).1;omega
     have hq0:(0:Int)<=(q:Int):=by omega
     have hcl:q<16384:=by have:=(hr.fun_ n f hV.hf).num;unfold A8 at this;have:=(List.getElem?_eq_some_iff.1 hi).1;omega
     obtain⟨-,-,-,-,k4,-,-,-,-,-,hfl4⟩:=Ak hF.f;obtain⟨wi,hWi,hbi,hli,hxi⟩:=Dq wr (iv i.op) (iv i.a) 48;obtain⟨d0,d1,-,-,hdl⟩:=Ae hxi;have hPop:∀w2,Below wi.heap.size wi w2->Calls Tryz.prog 72 #[.agg #[.slice ac m.consts.length cc,sL gf of m.funcs.length cf],.agg #[iv i.op,iv i.a]] w2 fun e w'=>e=.returned (iv (popN m.funcs i))∧Below w2.heap.size w2 w':=fun w2 hb=>Yd hr hV.hf hio ((hF.s.md.fun_.since (Since.of_below hbi)).since (Since.of_below hb))
     obtain⟨pn,Hpn⟩:∃pn:Nat,Hid (popN m.funcs i=(pn:Int)):=⟨(popN m.funcs i).toNat,by show _=_;omega⟩;rw[Hpn.out] at hPop;obtain⟨fr,Hfr⟩:∃fr:Nat,Hid (stk.length - pn=fr):=⟨_,rfl⟩;have hwr:IntKind.i64.wrap ((stk.length:Int) - (pn:Int))=(fr:Int):=by have:=Hfr.out;have:=Hpn.out;have:=hV.top;rw[IntKind.wrap_i64];omega
     have hfrl:fr<=stk.length:=by have:=Hfr.out;omega
     have hcB:∀w2,Below wi.heap.size wi w2->w2.cell? ⟨p,0,none⟩=some (.slice ac m.consts.length cc)∧w2.cell? ⟨p,1,none⟩=some (sL gf of m.funcs.length cf)∧w2.cell? ⟨wr.heap.size,0,none⟩=some (iv i.op)∧w2.cell? ⟨wr.heap.size,1,none⟩=some (iv i.a):=fun w2 hb=>by
      obtain⟨x0,x1,-⟩:=Ak (hF.s.mc.below (hbi.trans (hb.mono hbi.size)));obtain⟨x2,x3,-⟩:=Ae ((hb.block _ hdl).trans hxi);exact⟨x0,x1,x2,x3⟩
     obtain⟨e0,e1,-,-⟩:=hcB wi (Below.refl _ _);have hlpi:p<wi.heap.size:=Nat.lt_of_lt_of_le hlp hbi.size;have Hxi:Hid _:=hxi;replace hl2:Hid _:=hl2;clear hl1 hp0 hp1 hh hnx hN hli hxi;go_wp2_with fail;go_region_held3 (fun w'=>w'.cell? ⟨p,0,none⟩=some (.slice ac m.consts.length cc)∧w'.cell? ⟨p,1,none⟩=some (sL gf of m.funcs.length cf)∧w'.cell? ⟨wr.heap.size,0,none⟩=some (iv i.op)∧w'.cell? ⟨wr.heap.size,1,none⟩=some (iv i.a)) (go_keep)
      ((go_at_call 72;refine (hPop _ (Below.refl _ _).drew).mono ?_;rintro e w2 ⟨rfl,hb2⟩;replace hb2:=Ad hb2;obtain⟨g0,g1,g2,g3⟩:=hcB w2 hb2))
     have hB2:Below wr.heap.size wr w2:=hbi.trans (hb2.mono hbi.size);have hF2:=hF.keep hB2;have hsk2:=hsk.below hB2;have hc9:stk.length<=c9:=by
      obtain⟨a9',c9',e9,h9,-⟩:=hsk.slice;simp only[Value.slice.injEq,true_and] at e9;rw[e9.2];exact h9
     have hcut1:=Hv a9 stk.length c9 fr hfrl;have hcut2:=F5 a9 stk.length c9 fr (by omega);have htop:=hV.top;obtain⟨vs,Hvs⟩:∃vs:List V,Hid (stk.drop fr=vs):=⟨_,rfl⟩;obtain⟨sb,Hsb⟩:∃sb:List V,Hid (stk.take fr=sb):=⟨_,rfl⟩;have hd:=hsk2.drop hfrl;rw[Hvs.out] at hd;have ht:=hsk2.take hfrl;rw[Hsb.out] at ht;have hvl:vs.length<=256:=by rw[<-Hvs.out];simp;omega
     have hsl:sb.length<=256:=by rw[<-Hsb.out];simp;omega
     obtain⟨wa3,av,cv,w3,hWa3,hr3,hGv,hb3,ho3⟩:=D8 hd (by omega) (fun k hk=>hF2.s.bq hk);obtain⟨wa4,at4,ct4,w4,hWa4,hr4,hGs,hb4,ho4⟩:=D8 (ht.below hb3) (by omega) (fun k hk=>(hF2.keep hb3).s.bq hk);have hB34:Below w2.heap.size w2 w4:=hb3.trans (hb4.mono hb3.size);have hF4:=hF2.keep hB34;have hB4:Below wr.heap.size wr w4:=hB2.trans (hB34.mono hB2.size);have hvs4:Al (Bq A1 ls) w4 vs (.slice av vs.length cv):=hGv.vs.below hb4;have hFr4:Fr (fun k=>k≠p∧ss.ownBlock≠some k) w w4:=hFr.trans (Fr.of_below hB4);have hq1:IntKind.i64.wrap ((q:Int)+1)=((q+1:Nat):Int):=by rw[IntKind.wrap_i64];omega
     have Hx4:Hid (w4.heap[wr.heap.size]?=some (.cells #[iv i.op,iv i.a] 48 (0,0))):=(hB34.block _ (Nat.lt_of_lt_of_le hdl hb2.size)).trans ((hb2.block _ hdl).trans Hxi.out);obtain⟨d0',d1',-,-,hdl'⟩:=Ae ((hB34.block _ (Nat.lt_of_lt_of_le hdl hb2.size)).trans ((hb2.block _ hdl).trans Hxi.out));obtain⟨c0',c1',c2',c3',c4',y0',y1',y2',y3',y4',hlp'⟩:=Ak hF4.s.mc;obtain⟨r0',r1',r2',r3',z0',z1',z2',z3'⟩:=Aa hF4.r;have hrl':=hF4.rl;have hbel:A2 m i stk=sb:=by rw[<-Hsb.out,<-Hfr.out];unfold A2;rw[Hpn.out];rfl
     have hpopl:Dd m i stk=vs:=by rw[<-Hvs.out,<-Hfr.out];unfold Dd;rw[Hpn.out];rfl
     have hvn:(vs.length:Int)=popN m.funcs i:=by rw[<-hpopl];exact hl2.out
     rw[hbel,hpopl] at hgo hdone hcall;have hsvs:Av vs:=by rw[<-hpopl];exact hV.sstk.drop _
     have HG:Hid (∀p' loc' stk' sts'' fl'',vmI it15 m i q loc sb vs sts' fl'=.go p' loc' stk' sts'' fl''->Vst m states n f H p' loc' stk' sts'' fl''∧vmRun it15 m gg n p' loc' stk' sts'' fl''=some o∧fl''<=4096):=fun p' loc' stk' sts'' fl'' e=>by
      have e':=e;rw[<-hbel,<-hpopl] at e';have h1:=(Gp (Fd hr f (List.mem_of_getElem? hV.hf) i (List.mem_of_getElem? hi)) hV.f0 e).2.2.1;exact⟨hV.go Ce hr hcon hi e',hgo _ _ _ _ _ e,by omega⟩
     have HVc:Hid (∀k lk s fl'',vmI it15 m i q loc sb vs sts' fl'=.call k lk s fl''->(∃f' H',Vst m states k f' H' 0 lk [] sts' fl'')∧∀g o',vmRun it15 m g k 0 lk [] sts' fl''=some o'->o'.trap=0->Vst m states n f H (q+1) loc (s ++ [o'.val]) o'.sts o'.fuel):=fun k lk s fl'' e=>by
      have e':=e;rw[<-hbel,<-hpopl] at e';exact⟨hV.call Ce hr hcon hi e',fun g o' h1 h2=>hV.back Ce hr hcon hi e' h1 h2⟩
     have HD:Hid _:=hdone;have HV:Hid _:=hV;have Hio:Hid _:=hio;have Hi:Hid _:=hi;have HC:Hid _:=hcall;have HF4:Hid _:=hF4;have HF0:Hid _:=hF;have HFr0:Hid _:=hFr;have HB4:Hid _:=hB4;have HO4:Hid (∀k,(Value.slice at4 sb.length ct4).ownBlock=some k->wr.heap.size<k):=fun k e=>by have:=ho4 k e;have:=hb2.size;have:=hb3.size;omega
     have Hvs9:Hid (Al (B9 A1 ls (.slice at4 sb.length ct4)) w4 vs (.slice av vs.length cv)):=(hGv.vs.base (B':=B9 A1 ls (.slice at4 sb.length ct4)) (fun k hk hl=>⟨hk,fun e=>by have:=ho4 k e;omega⟩)).below hb4;have HFr4:Hid _:=hFr4;have HGs:Hid (Gv (Bq A1 ls) w4 (.slice at4 sb.length ct4) sb):=hGs;have Hvs4:Hid (Al (Bq A1 ls) w4 vs (.slice av vs.length cv)):=hvs4;have Hsvs:Hid (Av vs):=hsvs;have Hvn:Hid _:=hvn;have hop:i.op=1∨i.op=2∨i.op=3∨i.op=4∨i.op=5∨i.op=6∨i.op=7∨i.op=8∨i.op=9∨i.op=10∨i.op=11∨12<=i.op:=by have:=(Au.1 hio).1;omega
     obtain⟨op,a⟩:=i;simp only at hop d0' d1';clear hF hsk hFr hF2 hsk2 hd ht hF4 hvs4 hFr4 hgo hdone hcall hV hio hi hsvs hvn hbel hpopl hB2 hB34 hb2 hb3 hb4 hGv hGs ho3 ho4 hB4 hbi hPop hcB d0 d1 e0 e1 c0 c1 c2 c3 c4 y0 y1 y2 y3 y4 hlpi hWi r0 r1 r2 r3 z0 z1 z2 z3 g0 g1 g2 g3 k4 i0 i1 hl2 Hxi;rcases hop with rfl | rfl | rfl | rfl | rfl | rfl | rfl | rfl | rfl | rfl | rfl | h12
     ·as_aux_lemma=>
       have hlow:0<=a:=by have:=(Au.1 Hio.out).2.2.1;unfold Bc at this;simpa using this
       have hup:a<(m.consts.length:Int):=by have:=(Au.1 Hio.out).2.2.2;unfold Bx at this;simpa using this
       obtain⟨an,rfl⟩:∃an:Nat,a=(an:Int):=⟨a.toNat,by omega⟩;have han0:(0:Int)<=(an:Int):=by omega
       have hll:an<m.consts.length:=by omega
       obtain⟨x,hx⟩:∃x,m.consts[an]?=some x:=⟨_,List.getElem?_eq_getElem hll⟩;obtain⟨gs,os,ax,cx,rfl,-,hgl,x0,x1,x2,x3,hwx⟩:=HF0.out.s.md.con.get hx;obtain⟨fB,-⟩:=Ag HB4.out;have x0':=(fB gs _ hgl).trans x0;have x1':=(fB gs _ hgl).trans x1;have x2':=(fB gs _ hgl).trans x2;have x3':=(fB gs _ hgl).trans x3;have hgl4:gs<w4.heap.size:=Nat.lt_of_lt_of_le hgl HB4.out.size;have hdr:Below w4.heap.size w4 w4.drew:=Af w4 1;have hsx:Snd x:=hcon x (List.mem_of_getElem? hx);have hCp:=Az _ x _ _ w4.drew (Nat.lt_succ_self _) (by have:=hsx.1;omega) ((hwx.below HB4.out).below hdr);have hxI:vmI it15 m ⟨1,(an:Int)⟩ q loc sb vs sts' fl'=.go (q+1) loc (sb ++ [x]) sts' fl':=by simp[vmI,List.getD_eq_getElem?_getD,hx]
       obtain⟨v1,v2,v3⟩:=HG.out _ _ _ _ _ hxI;have HP:Hid (∀(e:Ending) (w5:World),D7 w4.drew x e w5->∃a5 c5 wa6 a6 c6 w6,e=.returned (.agg #[iv x.k,iv x.n,bz x.t,.slice a5 x.l.length c5])∧(∀k,k<=wr.heap.size->k<w4.heap.size->w5.heap[k]?=w4.heap[k]?)∧w5.alloc (.cells #[iv x.k,iv x.n,bz x.t,.slice a5 x.l.length c5] 31)=wa6∧(Builtin.append_ #[22,22] 22 #[Value.slice at4 sb.length ct4,sL w5.heap.size 0 1 1]).run Tryz.prog wa6=.ok (.slice a6 (sb.length+1) c6) w6∧(∀k,k<=wr.heap.size->k<w4.heap.size->wa6.heap[k]?=w4.heap[k]?)∧(∀k,k<=wr.heap.size->k<w4.heap.size->w6.heap[k]?=w4.heap[k]?)∧Hid (MR base p A1 m states (sL gs os m.consts.length cc) (sL gf of m.funcs.length cf) ss ls n f (sL gi oi f.code.length ck) H w.heap.size w0.heap.size (.cells #[iv 0,iv 0,.string ⟨#[]⟩,sZ] 31 (0,0)) (.cells #[iv f.params,iv f.locals,iv f.zero,iv f.stack,sL gi oi f.code.length ck] 52 (0,0)) o w gg (.slice a6 (sb.length+1) c6) (iv ((q+1:Nat):Int)) w6)):=fun e w5 hN=>by
        obtain⟨a5,c5,he,hx5,hb5⟩:∃a5 c5,e=.returned (.agg #[iv x.k,iv x.n,bz x.t,.slice a5 x.l.length c5])∧IsW (From w4.heap.size) w5 x (.slice a5 x.l.length c5)∧Below w4.heap.size w4.drew w5:=by
         obtain⟨⟨a5,c5,h1,h2,-⟩,h3⟩:=hN;exact⟨a5,c5,h1,h2,h3⟩
        have hb45:Below w4.heap.size w4 w5:=hdr.trans hb5;have hg5:Gv (Bq A1 ls) w5 (Value.slice at4 sb.length ct4) sb:=HGs.out.below hb45;obtain⟨wa6,a6,c6,w6,hWa6,hr6,hG6,hf6,-⟩:=C6 hg5 (hx5.base (fun k hk _=>⟨HF4.out.s.bq hk,fun e=>by have:=(HGs.out.lt e).2;have hk':w4.heap.size<=k:=hk;omega⟩)) (by omega) (fun k hk=>HF4.out.s.bq (Nat.le_trans hb45.size hk));obtain⟨g1,g2⟩:=HF0.out.push HB4.out (Fr.of_below hb45) (HF4.out.s.mc.below hb45) (fun k e=>Nat.le_of_lt (HO4.out k e)) hf6;have hl6:(sb ++ [x]).length=sb.length+1:=by simp
        have hs5:=hb45.size;refine⟨a5,c5,wa6,a6,c6,w6,he,fun k h1 h2=>hb45.block k h2,hWa6,hr6,fun k h1 h2=>?_,fun k h1 h2=>(hf6.block k (fun e=>by have:=HO4.out k e;omega) (by omega)).trans (hb45.block k h2),⟨q+1,loc,sb ++ [x],sts',fl',0,a6,c6,by rw[hl6],rfl,g1,by rw[hl6];exact hG6.vs,HFr0.out.trans (g2.mono (fun k hk=>hk.1)),Or.inl ⟨rfl,v1,v2,v3⟩⟩⟩;rw[<-hWa6];exact (((Below.refl w5.heap.size w5).alloc (Nat.le_refl _) _).block k (by omega)).trans (hb45.block k h2)
       have hSk:∀ww:World,(∀k,k<=wr.heap.size->k<w4.heap.size->ww.heap[k]?=w4.heap[k]?)->ww.cell? ⟨p,0,none⟩=some (sL gs os m.consts.length cc)∧ww.cell? ⟨wr.heap.size,1,none⟩=some (iv (an:Int))∧ww.cell? ⟨gs,os+an*4,none⟩=some (iv x.k)∧ww.cell? ⟨gs,os+an*4+1,none⟩=some (iv x.n)∧ww.cell? ⟨gs,os+an*4+2,none⟩=some (bz x.t)∧ww.cell? ⟨gs,os+an*4+3,none⟩=some (.slice ax x.l.length cx):=fun ww hk=>by
        have hc:∀k o,k<=wr.heap.size->k<w4.heap.size->ww.cell? ⟨k,o,none⟩=w4.cell? ⟨k,o,none⟩:=fun k o h1 h2=>by
         have:=hk k h1 h2;simp[World.cell?,this]
        exact⟨(hc p _ (by have:=HF0.out.s.mc.lt;omega) hlp').trans c0',(hc wr.heap.size _ (Nat.le_refl _) hdl').trans d1',(hc gs _ (by omega) hgl4).trans x0',(hc gs _ (by omega) hgl4).trans x1',(hc gs _ (by omega) hgl4).trans x2',(hc gs _ (by omega) hgl4).trans x3'⟩
       clear HVc Hvs9 HF0 HFr0 HB4 HO4 HF4 HGs HFr4 HG HD HV HC Hvs4 Hsvs Hvn Hio Hi v1 v2 v3 hxI hwx hx x0 x1 x2 x3 fB HneA hsx;go_wp2_with (at_builtin;first | (refine Lib.wpList_append_run _ rfl _ _ 22 22 rfl _ _ rfl rfl _ _ hr3 ?_;clear hr3) | (refine Lib.wpList_append_run _ rfl _ _ 22 22 rfl _ _ rfl rfl _ _ hr4 ?_;clear hr4));refine wpE_begin (S:=fun w'=>w'.cell? ⟨p,0,none⟩=some (sL gs os m.consts.length cc)∧w'.cell? ⟨wr.heap.size,1,none⟩=some (iv (an:Int))∧w'.cell? ⟨gs,os+an*4,none⟩=some (iv x.k)∧w'.cell? ⟨gs,os+an*4+1,none⟩=some (iv x.n)∧w'.cell? ⟨gs,os+an*4+2,none⟩=some (bz x.t)∧w'.cell? ⟨gs,os+an*4+3,none⟩=some (.slice ax x.l.length cx)) (N:=fun _=>true) (by kernel_rfl) ?_;have hS0:w4.drew.cell? ⟨p,0,none⟩=some (sL gs os m.consts.length cc)∧w4.drew.cell? ⟨wr.heap.size,1,none⟩=some (iv (an:Int))∧w4.drew.cell? ⟨gs,os+an*4,none⟩=some (iv x.k)∧w4.drew.cell? ⟨gs,os+an*4+1,none⟩=some (iv x.n)∧w4.drew.cell? ⟨gs,os+an*4+2,none⟩=some (bz x.t)∧w4.drew.cell? ⟨gs,os+an*4+3,none⟩=some (.slice ax x.l.length cx):=hSk _ (fun k h1 h2=>rfl);refine Ah (some 77) (fun _=>false) (i:=0) (v:=.slice at4 sb.length ct4) rfl rfl (by kernel_rfl) (by kernel_rfl) (by kernel_rfl) (by kernel_rfl) (fun j hj=>by cases hj) (fun _ _ _ h=>h) rfl (fun w' hS=>by obtain⟨q0,q1,q2,q3,q4,q5⟩:=hS;go_simp) (hS0) ?_
       try simp only[aP]
       refine Ah (some 78) (fun _=>false) (i:=1) (v:=pt p 0) rfl rfl (by kernel_rfl) (by kernel_rfl) (by kernel_rfl) (by kernel_rfl) (fun j hj=>by cases hj) (fun _ _ _ h=>h) rfl (fun w' hS=>by obtain⟨q0,q1,q2,q3,q4,q5⟩:=hS;go_simp) (hS0) ?_
       try simp only[aP]
       refine Ah (some 79) (fun _=>false) (i:=2) (v:=pt p 0) rfl rfl (by kernel_rfl) (by kernel_rfl) (by kernel_rfl) (by kernel_rfl) (fun j hj=>by cases hj) (fun _ _ _ h=>h) rfl (fun w' hS=>by obtain⟨q0,q1,q2,q3,q4,q5⟩:=hS;go_simp) (hS0) ?_
       try simp only[aP]
       refine Ah (some 80) (fun _=>false) (i:=3) (v:=pt p 0) rfl rfl (by kernel_rfl) (by kernel_rfl) (by kernel_rfl) (by kernel_rfl) (fun j hj=>by cases hj) (fun _ _ _ h=>h) rfl (fun w' hS=>by obtain⟨q0,q1,q2,q3,q4,q5⟩:=hS;go_simp) (hS0) ?_
       try simp only[aP]
       refine Ah (some 81) (fun _=>false) (i:=4) (v:=pt p 0) rfl rfl (by kernel_rfl) (by kernel_rfl) (by kernel_rfl) (by kernel_rfl) (fun j hj=>by cases hj) (fun _ _ _ h=>h) rfl (fun w' hS=>by obtain⟨q0,q1,q2,q3,q4,q5⟩:=hS;go_simp) (hS0) ?_
       try simp only[aP]
       refine Ah (some 82) (fun _=>false) (i:=5) (v:=sL gs os m.consts.length cc) rfl rfl (by kernel_rfl) (by kernel_rfl) (by kernel_rfl) (by kernel_rfl) (fun j hj=>by cases hj) (fun _ _ _ h=>h) rfl (fun w' hS=>by obtain⟨q0,q1,q2,q3,q4,q5⟩:=hS;go_simp) (hS0) ?_
       try simp only[aP]
       refine Ah (some 83) (fun _=>false) (i:=6) (v:=pt wr.heap.size 1) rfl rfl (by kernel_rfl) (by kernel_rfl) (by kernel_rfl) (by kernel_rfl) (fun j hj=>by cases hj) (fun _ _ _ h=>h) rfl (fun w' hS=>by obtain⟨q0,q1,q2,q3,q4,q5⟩:=hS;go_simp) (hS0) ?_
       try simp only[aP]
       refine Ah (some 84) (fun _=>false) (i:=7) (v:=iv (an:Int)) rfl rfl (by kernel_rfl) (by kernel_rfl) (by kernel_rfl) (by kernel_rfl) (fun j hj=>by cases hj) (fun _ _ _ h=>h) rfl (fun w' hS=>by obtain⟨q0,q1,q2,q3,q4,q5⟩:=hS;go_simp) (hS0) ?_
       try simp only[aP]
       refine Ah (some 85) (fun _=>false) (i:=8) (v:=pt gs (os+an*4)) rfl rfl (by kernel_rfl) (by kernel_rfl) (by kernel_rfl) (by kernel_rfl) (fun j hj=>by cases hj) (fun _ _ _ h=>h) rfl (fun w' hS=>by obtain⟨q0,q1,q2,q3,q4,q5⟩:=hS;go_simp) (hS0) ?_
       try simp only[aP]
       refine Ah (some 86) (fun _=>false) (i:=9) (v:=.agg #[iv x.k,iv x.n,bz x.t,.slice ax x.l.length cx]) rfl rfl (by kernel_rfl) (by kernel_rfl) (by kernel_rfl) (by kernel_rfl) (fun j hj=>by cases hj) (fun _ _ _ h=>h) rfl (fun w' hS=>by obtain⟨q0,q1,q2,q3,q4,q5⟩:=hS;go_simp) (hS0) ?_
       try simp only[aP]
       refine Ac (i:=10) (by kernel_rfl) rfl rfl (fun K hK=>?_);go_simp;refine hCp.mono ?_;rintro e w5 hN5;obtain⟨a5,c5,wa6,a6,c6,w6,rfl,hk5,hWa6,hr6,hka,hk6,Hf⟩:=HP.out e w5 hN5;clear hN5 HP hCp;refine hK _ _ (fun _=>hSk _ hk5) ?_;clear hK K
       try simp only[aP]
       refine Ac (i:=11) (by kernel_rfl) rfl rfl (fun K hK=>?_);go_simp;refine hK _ _ (fun _=>hSk _ hka) ?_;clear hK K
       try simp only[aP]
       refine Ac (i:=12) (by kernel_rfl) rfl rfl (fun K hK=>?_);refine Ay _ _ 22 rfl _ _ rfl rfl _ _ hr6 ?_;refine hK _ _ (fun _=>hSk _ hk6) ?_;clear hK K
       try simp only[aP]
       refine Ac (i:=13) (by kernel_rfl) rfl rfl (fun K hK=>?_);go_simp;refine hK _ _ (fun _=>hSk _ hk6) ?_;clear hK K
       try simp only[aP]
       refine Am (by kernel_rfl) ?_;simp only[Exit.inBlock,Exit.then];refine ‹∀(a:Act) (w:World),_->_› _ _ ?_;go_wp2_with fail;go_roundg gg
       case measure=>omega
       case rel=>exact⟨gg,rfl,by omega,Hf.out⟩
     ·as_aux_lemma=>
       have hlow:0<=a:=by have:=(Au.1 Hio.out).2.2.1;unfold Bc at this;simpa using this
       have hup:a<f.locals:=by have:=(Au.1 Hio.out).2.2.2;unfold Bx at this;simpa using this
       obtain⟨an,rfl⟩:∃an:Nat,a=(an:Int):=⟨a.toNat,by omega⟩;have han0:(0:Int)<=(an:Int):=by omega
       have hll:an<loc.length:=by have:=HV.out.ll;omega
       obtain⟨x,hx⟩:∃x,loc[an]?=some x:=⟨_,List.getElem?_eq_getElem hll⟩;have hlc:Gv A1 wr (.slice a8 nl c8) loc:=by rw[Hls.out];exact HF0.out.s.lc
       obtain⟨gl,ax,cx,rfl,hgl,hnl,x0,x1,x2,x3,-,-,-,-,hwx⟩:=hlc.get hx;have hlI:(an:Int)<(nl:Int):=by omega
       obtain⟨fB,-⟩:=Ag HB4.out;have x0':=(fB gl _ hgl).trans x0;have x1':=(fB gl _ hgl).trans x1;have x2':=(fB gl _ hgl).trans x2;have x3':=(fB gl _ hgl).trans x3;have hgl4:gl<w4.heap.size:=Nat.lt_of_lt_of_le hgl HB4.out.size;have hw4:IsW (fun k=>Bq A1 ls k∧(Value.slice at4 sb.length ct4).ownBlock≠some k) w4 x (.slice ax x.l.length cx):=(hwx.base (fun k hk hl=>⟨⟨hk.1,by rw[<-Hls.out];exact hk.2⟩,fun e=>by have:=HO4.out k e;omega⟩)).below HB4.out;obtain⟨wa6,a6,c6,w6,hWa6,hr6,hG6,hf6,-⟩:=C6 HGs.out hw4 (by omega) (fun k hk=>HF4.out.s.bq hk);have hxI:vmI it15 m ⟨2,(an:Int)⟩ q loc sb vs sts' fl'=.go (q+1) loc (sb ++ [x]) sts' fl':=by simp[vmI,List.getD_eq_getElem?_getD,hx]
       obtain⟨v1,v2,v3⟩:=HG.out _ _ _ _ _ hxI;have Hf:Hid (MR base p A1 m states (.slice ac m.consts.length cc) (sL gf of m.funcs.length cf) ss ls n f (sL gi oi f.code.length ck) H w.heap.size w0.heap.size (.cells #[iv 0,iv 0,.string ⟨#[]⟩,sZ] 31 (0,0)) (.cells #[iv f.params,iv f.locals,iv f.zero,iv f.stack,sL gi oi f.code.length ck] 52 (0,0)) o w gg (.slice a6 (sb.length+1) c6) (iv ((q+1:Nat):Int)) w6):=by
        obtain⟨g1,g2⟩:=HF0.out.push HB4.out (Fr.refl _ _) HF4.out.s.mc (fun k e=>Nat.le_of_lt (HO4.out k e)) hf6;have hl6:(sb ++ [x]).length=sb.length+1:=by simp
        exact⟨q+1,loc,sb ++ [x],sts',fl',0,a6,c6,by rw[hl6],rfl,g1,by rw[hl6];exact hG6.vs,HFr0.out.trans (g2.mono (fun k hk=>hk.1)),Or.inl ⟨rfl,v1,v2,v3⟩⟩
       clear HVc Hvs9 HF0 HFr0 HB4 HO4 HF4 HGs HFr4 HG HD HV HC Hvs4 Hsvs Hvn Hio Hi v1 v2 v3 hxI hw4 hwx hlc hx x0 x1 x2 x3 fB hG6 hf6 hgl hnl;go_wp2_with (at_builtin;first | (refine Lib.wpList_append_run _ rfl _ _ 22 22 rfl _ _ rfl rfl _ _ hr3 ?_;clear hr3) | (refine Lib.wpList_append_run _ rfl _ _ 22 22 rfl _ _ rfl rfl _ _ hr4 ?_;clear hr4) | (refine Lib.wpList_append_run _ rfl _ _ 22 22 rfl _ _ rfl rfl _ _ hr6 ?_;clear hr6));go_roundg gg
       case measure=>omega
       case rel=>exact⟨gg,rfl,by omega,Hf.out⟩
     ·as_aux_lemma=>
       have hv1:vs.length=1:=by have:=Hvn.out;unfold popN Eh at this;simp at this;omega
       obtain⟨x0,rfl⟩:=List.length_eq_one_iff.1 hv1;obtain⟨gv,ov,ax,cx,rfl,hBgv,hgv,x0',x1',x2',x3',hw0⟩:=Hvs4.out.get (i:=0) (x:=x0) rfl;simp only[Nat.zero_mul,Nat.add_zero] at x0' x1' x2' x3';have hlow:0<=a:=by have:=(Au.1 Hio.out).2.2.1;unfold Bc at this;simpa using this
       have hup:a<f.locals:=by have:=(Au.1 Hio.out).2.2.2;unfold Bx at this;simpa using this
       obtain⟨an,rfl⟩:∃an:Nat,a=(an:Int):=⟨a.toNat,by omega⟩;have han0:(0:Int)<=(an:Int):=by omega
       have hll:an<loc.length:=by have:=HV.out.ll;omega
       obtain⟨y,hy⟩:∃y,loc[an]?=some y:=⟨_,List.getElem?_eq_getElem hll⟩;have hlr:Gv A1 wr (.slice a8 nl c8) loc:=by rw[Hls.out];exact HF0.out.s.lc
       have hlc:Gv A1 w4 (.slice a8 nl c8) loc:=by rw[Hls.out];exact HF4.out.s.lc
       obtain⟨gl,ay,cy,rfl,hgl4,hnl,l0,l1,l2,l3,t0,t1,t2,t3,-⟩:=hlc.get hy;have hgl:gl<wr.heap.size:=(hlr.lt (k:=gl) rfl).2;have hlI:(an:Int)<(nl:Int):=by omega
       have hAgl:A1 gl:=(hlc.lt (k:=gl) rfl).1;have hBls:∀k,Bq A1 ls k->k≠gl:=fun k hk e=>hk.2 (by rw[<-Hls.out,e];rfl)
       clear hlc hlr hy hnl;have u1:gv≠gl:=hBls gv hBgv;have u2:gl≠gv:=fun e=>u1 e.symm
       have u3:wr.heap.size≠gl:=by omega
       have u4:gl≠wr.heap.size:=by omega
       have u5:p≠gl:=fun e=>HF4.out.s.np (e ▸ hAgl)
       have u6:gl≠p:=fun e=>u5 e.symm
       obtain⟨w5,hW5⟩:∃w5,set4At w4 gl (an*4) (iv x0.k) (iv x0.n) (bz x0.t) (.slice ax x0.l.length cx)=w5:=⟨_,rfl⟩;have hxI:vmI it15 m ⟨3,(an:Int)⟩ q loc sb [x0] sts' fl'=.go (q+1) (loc.set an x0) sb sts' fl':=by simp[vmI]
       obtain⟨v1,v2,v3⟩:=HG.out _ _ _ _ _ hxI;have hs5:∀{P:Nat->Prop},(¬P gl)->Since P w4 w5:=fun {P} h=>by rw[<-hW5];exact Bi h _ _ _ _ _
       have hFs:Fr (fun k=>k≠gl) w4 w5:=by rw[<-hW5];exact (((Fr.set (by simp) _ _).trans (Fr.set (by simp) _ _)).trans (Fr.set (by simp) _ _)).trans (Fr.set (by simp) _ _)
       have Hf:Hid (MR base p A1 m states (.slice ac m.consts.length cc) (sL gf of m.funcs.length cf) ss ls n f (sL gi oi f.code.length ck) H w.heap.size w0.heap.size (.cells #[iv 0,iv 0,.string ⟨#[]⟩,sZ] 31 (0,0)) (.cells #[iv f.params,iv f.locals,iv f.zero,iv f.stack,sL gi oi f.code.length ck] 52 (0,0)) o w gg (.slice at4 sb.length ct4) (iv ((q+1:Nat):Int)) w5.drew):=by
        have g1:VmF base p A1 m (.slice ac m.consts.length cc) (sL gf of m.funcs.length cf) ss ls f (sL gi oi f.code.length ck) w.heap.size w0.heap.size (.cells #[iv 0,iv 0,.string ⟨#[]⟩,sZ] 31 (0,0)) (.cells #[iv f.params,iv f.locals,iv f.zero,iv f.stack,sL gi oi f.code.length ck] 52 (0,0)) (loc.set an x0) sts' fl' 0 (set4At w4 gl (an*4) (iv x0.k) (iv x0.n) (bz x0.t) (.slice ax x0.l.length cx)):=by
         have h0:=HF4.out;have hw:=hw0;rw[<-Hls.out] at h0 hw ⊢;exact h0.setL hll hw
        rw[hW5] at g1;have hdr:Below w5.heap.size w5 w5.drew:=Af w5 1;have g3:Fr (fun k=>k≠p∧(ss).ownBlock≠some k) w w5:=⟨hFs.os.trans HFr4.out.os,hFs.tape.trans HFr4.out.tape,hFs.output.trans HFr4.out.output,Nat.le_trans HFr4.out.size hFs.size,fun k hk hl=>(hFs.block k (fun e=>HneA.out k hl (by rw[<-Hls.out,e];rfl)) (Nat.lt_of_lt_of_le hl HFr4.out.size)).trans (HFr4.out.block k hk hl)⟩;exact⟨q+1,(loc.set an x0),sb,sts',fl',0,at4,ct4,rfl,rfl,g1.keep hdr,(HGs.out.vs.since (hs5 (fun hk=>hBls gl hk rfl))).below hdr,g3.trans (Fr.of_below hdr),Or.inl ⟨rfl,v1,v2,v3⟩⟩
       have hc5:∀g o,g≠gl->g<w4.heap.size->w5.drew.cell? ⟨g,o,none⟩=w4.cell? ⟨g,o,none⟩:=fun g o h1 h2=>by
        have:=hFs.block g h1 h2;show w5.cell? _=_;simp[World.cell?,this]
       have s0:=(hc5 gv _ u1 hgv).trans x0';have s1:=(hc5 gv _ u1 hgv).trans x1';have s2:=(hc5 gv _ u1 hgv).trans x2';have s3:=(hc5 gv _ u1 hgv).trans x3';have s4:=(hc5 wr.heap.size _ u3 hdl').trans d1';have s5:=(hc5 p _ u5 hlp').trans c2';clear HVc Hvs9 HF0 HFr0 HB4 HO4 HF4 HGs HFr4 HG HD HV HC Hvs4 Hsvs Hvn Hio Hi v1 v2 v3 hxI hw0 hFs hs5 HneA hc5;simp only[set4At] at hW5;simp only[List.length_singleton] at *;go_wp2_with (at_builtin;first | (refine Lib.wpList_append_run _ rfl _ _ 22 22 rfl _ _ rfl rfl _ _ hr3 ?_;clear hr3) | (refine Lib.wpList_append_run _ rfl _ _ 22 22 rfl _ _ rfl rfl _ _ hr4 ?_;clear hr4));go_region_held3 (fun w'=>w'.cell? ⟨gv,ov,none⟩=some (iv x0.k)∧w'.cell? ⟨gv,ov+1,none⟩=some (iv x0.n)∧w'.cell? ⟨gv,ov+2,none⟩=some (bz x0.t)∧w'.cell? ⟨gv,ov+3,none⟩=some (.slice ax x0.l.length cx)∧w'.cell? ⟨wr.heap.size,1,none⟩=some (iv (an:Int))) (go_keep) (fail);go_wp2_with fail;go_roundg gg
       case measure=>omega
       case rel=>exact⟨gg,rfl,by omega,Hf.out⟩
     ·as_aux_lemma=>
       have hlow:0<=a:=by have:=(Au.1 Hio.out).2.2.1;unfold Bc at this;simpa using this
       have hup:a<states:=by have:=(Au.1 Hio.out).2.2.2;unfold Bx at this;simpa using this
       obtain⟨an,rfl⟩:∃an:Nat,a=(an:Int):=⟨a.toNat,by omega⟩;have han0:(0:Int)<=(an:Int):=by omega
       have hll:an<sts'.length:=by have:=HV.out.sl;omega
       obtain⟨sa,sc,hss,-,-⟩:=HF4.out.s.st.slice;subst hss;obtain⟨x,hx⟩:∃x,sts'[an]?=some x:=⟨_,List.getElem?_eq_getElem hll⟩;obtain⟨gs,ax,cx,rfl,hgl,-,x0,x1,x2,x3,-,-,-,-,hwx⟩:=HF0.out.s.st.get hx;have hlI:(an:Int)<(sts'.length:Int):=by omega
       obtain⟨fB,-⟩:=Ag HB4.out;have x0':=(fB gs _ hgl).trans x0;have x1':=(fB gs _ hgl).trans x1;have x2':=(fB gs _ hgl).trans x2;have x3':=(fB gs _ hgl).trans x3;have hgl4:gs<w4.heap.size:=Nat.lt_of_lt_of_le hgl HB4.out.size;have hdr:Below w4.heap.size w4 w4.drew:=Af w4 1;have hw4:IsW (fun k=>Bq A1 ls k∧(Value.slice at4 sb.length ct4).ownBlock≠some k) w4.drew x (.slice ax x.l.length cx):=((hwx.base (fun k hk hl=>⟨by rcases hk.1 with h | h;exact h;exact absurd h hk.2,fun e=>by have:=HO4.out k e;omega⟩)).below HB4.out).below hdr;have hgd:Gv (Bq A1 ls) w4.drew (Value.slice at4 sb.length ct4) sb:=HGs.out.below hdr;obtain⟨wa6,a6,c6,w6,hWa6,hr6,hG6,hf6,-⟩:=C6 hgd hw4 (by omega) (fun k hk=>HF4.out.s.bq hk);have hxI:vmI it15 m ⟨4,(an:Int)⟩ q loc sb vs sts' fl'=.go (q+1) loc (sb ++ [x]) sts' fl':=by simp[vmI,List.getD_eq_getElem?_getD,hx]
       obtain⟨v1,v2,v3⟩:=HG.out _ _ _ _ _ hxI;have Hf:Hid (MR base p A1 m states (.slice ac m.consts.length cc) (sL gf of m.funcs.length cf) (sL gs 0 sts'.length sc) ls n f (sL gi oi f.code.length ck) H w.heap.size w0.heap.size (.cells #[iv 0,iv 0,.string ⟨#[]⟩,sZ] 31 (0,0)) (.cells #[iv f.params,iv f.locals,iv f.zero,iv f.stack,sL gi oi f.code.length ck] 52 (0,0)) o w gg (.slice a6 (sb.length+1) c6) (iv ((q+1:Nat):Int)) w6):=by
        obtain⟨g1,g2⟩:=HF0.out.push HB4.out (Fr.of_below hdr) (HF4.out.s.mc.below hdr) (fun k e=>Nat.le_of_lt (HO4.out k e)) hf6;have hl6:(sb ++ [x]).length=sb.length+1:=by simp
        exact⟨q+1,loc,sb ++ [x],sts',fl',0,a6,c6,by rw[hl6],rfl,g1,by rw[hl6];exact hG6.vs,HFr0.out.trans (g2.mono (fun k hk=>hk.1)),Or.inl ⟨rfl,v1,v2,v3⟩⟩
       have hSk:∀ww:World,(∀k,k<=wr.heap.size->k<w4.heap.size->ww.heap[k]?=w4.heap[k]?)->ww.cell? ⟨p,2,none⟩=some (sL gs 0 sts'.length sc)∧ww.cell? ⟨wr.heap.size,1,none⟩=some (iv (an:Int))∧ww.cell? ⟨gs,an*4,none⟩=some (iv x.k)∧ww.cell? ⟨gs,an*4+1,none⟩=some (iv x.n)∧ww.cell? ⟨gs,an*4+2,none⟩=some (bz x.t)∧ww.cell? ⟨gs,an*4+3,none⟩=some (.slice ax x.l.length cx):=fun ww hk=>by
        have hc:∀k o,k<=wr.heap.size->k<w4.heap.size->ww.cell? ⟨k,o,none⟩=w4.cell? ⟨k,o,none⟩:=fun k o h1 h2=>by
         have:=hk k h1 h2;simp[World.cell?,this]
        have hp4:=hlp';exact⟨(hc p _ (by have:=HF0.out.s.mc.lt;omega) hlp').trans c2',(hc wr.heap.size _ (Nat.le_refl _) hdl').trans d1',(hc gs _ (by omega) hgl4).trans x0',(hc gs _ (by omega) hgl4).trans x1',(hc gs _ (by omega) hgl4).trans x2',(hc gs _ (by omega) hgl4).trans x3'⟩
       have hka:∀k,k<=wr.heap.size->k<w4.heap.size->wa6.heap[k]?=w4.heap[k]?:=fun k h1 h2=>by rw[<-hWa6];exact ((Below.refl w4.drew.heap.size w4.drew).alloc (Nat.le_refl _) _).block k h2
       have hk6:∀k,k<=wr.heap.size->k<w4.heap.size->w6.heap[k]?=w4.heap[k]?:=fun k h1 h2=>hf6.block k (fun e=>by have:=HO4.out k e;omega) h2
       clear HVc Hvs9 HF0 HFr0 HB4 HO4 HF4 HGs HFr4 HG HD HV HC Hvs4 Hsvs Hvn Hio Hi v1 v2 v3 hxI hw4 hwx hx x0 x1 x2 x3 fB hG6 hf6 hgd HneA;go_wp2_with (at_builtin;first | (refine Lib.wpList_append_run _ rfl _ _ 22 22 rfl _ _ rfl rfl _ _ hr3 ?_;clear hr3) | (refine Lib.wpList_append_run _ rfl _ _ 22 22 rfl _ _ rfl rfl _ _ hr4 ?_;clear hr4));refine wpE_begin (S:=fun w'=>w'.cell? ⟨p,2,none⟩=some (sL gs 0 sts'.length sc)∧w'.cell? ⟨wr.heap.size,1,none⟩=some (iv (an:Int))∧w'.cell? ⟨gs,an*4,none⟩=some (iv x.k)∧w'.cell? ⟨gs,an*4+1,none⟩=some (iv x.n)∧w'.cell? ⟨gs,an*4+2,none⟩=some (bz x.t)∧w'.cell? ⟨gs,an*4+3,none⟩=some (.slice ax x.l.length cx)) (N:=fun _=>true) (by kernel_rfl) ?_;have hS0:w4.drew.cell? ⟨p,2,none⟩=some (sL gs 0 sts'.length sc)∧w4.drew.cell? ⟨wr.heap.size,1,none⟩=some (iv (an:Int))∧w4.drew.cell? ⟨gs,an*4,none⟩=some (iv x.k)∧w4.drew.cell? ⟨gs,an*4+1,none⟩=some (iv x.n)∧w4.drew.cell? ⟨gs,an*4+2,none⟩=some (bz x.t)∧w4.drew.cell? ⟨gs,an*4+3,none⟩=some (.slice ax x.l.length cx):=hSk _ (fun k h1 h2=>rfl);refine Ah (some 111) (fun _=>false) (i:=0) (v:=.slice at4 sb.length ct4) rfl rfl (by kernel_rfl) (by kernel_rfl) (by kernel_rfl) (by kernel_rfl) (fun j hj=>by cases hj) (fun _ _ _ h=>h) rfl (fun w' hS=>by obtain⟨q0,q1,q2,q3,q4,q5⟩:=hS;go_simp) (hS0) ?_
       try simp only[aP]
       refine Ah (some 112) (fun _=>false) (i:=1) (v:=pt p 0) rfl rfl (by kernel_rfl) (by kernel_rfl) (by kernel_rfl) (by kernel_rfl) (fun j hj=>by cases hj) (fun _ _ _ h=>h) rfl (fun w' hS=>by obtain⟨q0,q1,q2,q3,q4,q5⟩:=hS;go_simp) (hS0) ?_
       try simp only[aP]
       refine Ah (some 113) (fun _=>false) (i:=2) (v:=pt p 0) rfl rfl (by kernel_rfl) (by kernel_rfl) (by kernel_rfl) (by kernel_rfl) (fun j hj=>by cases hj) (fun _ _ _ h=>h) rfl (fun w' hS=>by obtain⟨q0,q1,q2,q3,q4,q5⟩:=hS;go_simp) (hS0) ?_
       try simp only[aP]
       refine Ah (some 114) (fun _=>false) (i:=3) (v:=pt p 2) rfl rfl (by kernel_rfl) (by kernel_rfl) (by kernel_rfl) (by kernel_rfl) (fun j hj=>by cases hj) (fun _ _ _ h=>h) rfl (fun w' hS=>by obtain⟨q0,q1,q2,q3,q4,q5⟩:=hS;go_simp) (hS0) ?_
       try simp only[aP]
       refine Ah (some 115) (fun _=>false) (i:=4) (v:=sL gs 0 sts'.length sc) rfl rfl (by kernel_rfl) (by kernel_rfl) (by kernel_rfl) (by kernel_rfl) (fun j hj=>by cases hj) (fun _ _ _ h=>h) rfl (fun w' hS=>by obtain⟨q0,q1,q2,q3,q4,q5⟩:=hS;go_simp) (hS0) ?_
       try simp only[aP]
       refine Ah (some 116) (fun _=>false) (i:=5) (v:=pt wr.heap.size 1) rfl rfl (by kernel_rfl) (by kernel_rfl) (by kernel_rfl) (by kernel_rfl) (fun j hj=>by cases hj) (fun _ _ _ h=>h) rfl (fun w' hS=>by obtain⟨q0,q1,q2,q3,q4,q5⟩:=hS;go_simp) (hS0) ?_
       try simp only[aP]
       refine Ah (some 117) (fun _=>false) (i:=6) (v:=iv (an:Int)) rfl rfl (by kernel_rfl) (by kernel_rfl) (by kernel_rfl) (by kernel_rfl) (fun j hj=>by cases hj) (fun _ _ _ h=>h) rfl (fun w' hS=>by obtain⟨q0,q1,q2,q3,q4,q5⟩:=hS;go_simp) (hS0) ?_
       try simp only[aP]
       refine Ah (some 118) (fun _=>false) (i:=7) (v:=pt gs (an*4)) rfl rfl (by kernel_rfl) (by kernel_rfl) (by kernel_rfl) (by kernel_rfl) (fun j hj=>by cases hj) (fun _ _ _ h=>h) rfl (fun w' hS=>by obtain⟨q0,q1,q2,q3,q4,q5⟩:=hS;go_simp) (hS0) ?_
       try simp only[aP]
       refine Ah (some 119) (fun _=>false) (i:=8) (v:=.agg #[iv x.k,iv x.n,bz x.t,.slice ax x.l.length cx]) rfl rfl (by kernel_rfl) (by kernel_rfl) (by kernel_rfl) (by kernel_rfl) (fun j hj=>by cases hj) (fun _ _ _ h=>h) rfl (fun w' hS=>by obtain⟨q0,q1,q2,q3,q4,q5⟩:=hS;go_simp) (hS0) ?_
       try simp only[aP]
       refine Ac (i:=9) (by kernel_rfl) rfl rfl (fun K hK=>?_);go_simp;refine hK _ _ (fun _=>hSk _ hka) ?_;clear hK K
       try simp only[aP]
       refine Ac (i:=10) (by kernel_rfl) rfl rfl (fun K hK=>?_);refine Ay _ _ 22 rfl _ _ rfl rfl _ _ hr6 ?_;refine hK _ _ (fun _=>hSk _ hk6) ?_;clear hK K
       try simp only[aP]
       refine Ac (i:=11) (by kernel_rfl) rfl rfl (fun K hK=>?_);go_simp;refine hK _ _ (fun _=>hSk _ hk6) ?_;clear hK K
       try simp only[aP]
       refine Am (by kernel_rfl) ?_;simp only[Exit.inBlock,Exit.then];refine ‹∀(a:Act) (w:World),_->_› _ _ ?_;go_wp2_with fail;go_roundg gg
       case measure=>omega
       case rel=>exact⟨gg,rfl,by omega,Hf.out⟩
     ·as_aux_lemma=>
       have hv1:vs.length=1:=by have:=Hvn.out;unfold popN Eh at this;simp at this;omega
       obtain⟨x0,rfl⟩:=List.length_eq_one_iff.1 hv1;obtain⟨gv,ov,ax,cx,rfl,hBgv,hgv,x0',x1',x2',x3',hw0⟩:=Hvs4.out.get (i:=0) (x:=x0) rfl;simp only[Nat.zero_mul,Nat.add_zero] at x0' x1' x2' x3';have hlow:0<=a:=by have:=(Au.1 Hio.out).2.2.1;unfold Bc at this;simpa using this
       have hup:a<states:=by have:=(Au.1 Hio.out).2.2.2;unfold Bx at this;simpa using this
       obtain⟨an,rfl⟩:∃an:Nat,a=(an:Int):=⟨a.toNat,by omega⟩;have han0:(0:Int)<=(an:Int):=by omega
       have hll:an<sts'.length:=by have:=HV.out.sl;omega
       obtain⟨sa,sc,hss,-,-⟩:=HF4.out.s.st.slice;subst hss;obtain⟨y,hy⟩:∃y,sts'[an]?=some y:=⟨_,List.getElem?_eq_getElem hll⟩;obtain⟨gl,ay,cy,rfl,hgl4,-,l0,l1,l2,l3,t0,t1,t2,t3,-⟩:=HF4.out.s.st.get hy;have hgl:gl<wr.heap.size:=(HF0.out.s.st.lt (k:=gl) rfl).2;have hlI:(an:Int)<(sts'.length:Int):=by omega
       have hnA:¬A1 gl:=HF4.out.s.ns gl rfl;clear hy;have u1:gv≠gl:=fun e=>hnA (e ▸ hBgv.1)
       have u2:gl≠gv:=fun e=>u1 e.symm
       have u3:wr.heap.size≠gl:=by omega
       have u4:gl≠wr.heap.size:=by omega
       have u5:p≠gl:=fun e=>HF4.out.s.sp (by rw[e];rfl)
       have u6:gl≠p:=fun e=>u5 e.symm
       obtain⟨w5,hW5⟩:∃w5,set4At w4 gl (an*4) (iv x0.k) (iv x0.n) (bz x0.t) (.slice ax x0.l.length cx)=w5:=⟨_,rfl⟩;have hxI:vmI it15 m ⟨5,(an:Int)⟩ q loc sb [x0] sts' fl'=.go (q+1) loc sb (sts'.set an x0) fl':=by simp[vmI]
       obtain⟨v1,v2,v3⟩:=HG.out _ _ _ _ _ hxI;have hs5:∀{P:Nat->Prop},(¬P gl)->Since P w4 w5:=fun {P} h=>by rw[<-hW5];exact Bi h _ _ _ _ _
       have hFs:Fr (fun k=>k≠gl) w4 w5:=by rw[<-hW5];exact (((Fr.set (by simp) _ _).trans (Fr.set (by simp) _ _)).trans (Fr.set (by simp) _ _)).trans (Fr.set (by simp) _ _)
       have Hf:Hid (MR base p A1 m states (.slice ac m.consts.length cc) (sL gf of m.funcs.length cf) (sL gl 0 sts'.length sc) ls n f (sL gi oi f.code.length ck) H w.heap.size w0.heap.size (.cells #[iv 0,iv 0,.string ⟨#[]⟩,sZ] 31 (0,0)) (.cells #[iv f.params,iv f.locals,iv f.zero,iv f.stack,sL gi oi f.code.length ck] 52 (0,0)) o w gg (.slice at4 sb.length ct4) (iv ((q+1:Nat):Int)) w5.drew):=by
        have g1:VmF base p A1 m (.slice ac m.consts.length cc) (sL gf of m.funcs.length cf) (sL gl 0 sts'.length sc) ls f (sL gi oi f.code.length ck) w.heap.size w0.heap.size (.cells #[iv 0,iv 0,.string ⟨#[]⟩,sZ] 31 (0,0)) (.cells #[iv f.params,iv f.locals,iv f.zero,iv f.stack,sL gi oi f.code.length ck] 52 (0,0)) loc (sts'.set an x0) fl' 0 (set4At w4 gl (an*4) (iv x0.k) (iv x0.n) (bz x0.t) (.slice ax x0.l.length cx)):=by
         exact HF4.out.setS hll hw0
        rw[hW5] at g1;have hdr:Below w5.heap.size w5 w5.drew:=Af w5 1;have g3:Fr (fun k=>k≠p∧((sL gl 0 sts'.length sc)).ownBlock≠some k) w w5:=⟨hFs.os.trans HFr4.out.os,hFs.tape.trans HFr4.out.tape,hFs.output.trans HFr4.out.output,Nat.le_trans HFr4.out.size hFs.size,fun k hk hl=>(hFs.block k (fun e=>hk.2 (by rw[e];rfl)) (Nat.lt_of_lt_of_le hl HFr4.out.size)).trans (HFr4.out.block k hk hl)⟩;exact⟨q+1,loc,sb,(sts'.set an x0),fl',0,at4,ct4,rfl,rfl,g1.keep hdr,(HGs.out.vs.since (hs5 (fun hk=>hnA hk.1))).below hdr,g3.trans (Fr.of_below hdr),Or.inl ⟨rfl,v1,v2,v3⟩⟩
       have hc5:∀g o,g≠gl->g<w4.heap.size->w5.drew.cell? ⟨g,o,none⟩=w4.cell? ⟨g,o,none⟩:=fun g o h1 h2=>by
        have:=hFs.block g h1 h2;show w5.cell? _=_;simp[World.cell?,this]
       have s0:=(hc5 gv _ u1 hgv).trans x0';have s1:=(hc5 gv _ u1 hgv).trans x1';have s2:=(hc5 gv _ u1 hgv).trans x2';have s3:=(hc5 gv _ u1 hgv).trans x3';have s4:=(hc5 wr.heap.size _ u3 hdl').trans d1';have s5:=(hc5 p _ u5 hlp').trans c2';clear HVc Hvs9 HF0 HFr0 HB4 HO4 HF4 HGs HFr4 HG HD HV HC Hvs4 Hsvs Hvn Hio Hi v1 v2 v3 hxI hw0 hFs hs5 HneA hc5;simp only[set4At] at hW5;simp only[List.length_singleton] at *;go_wp2_with (at_builtin;first | (refine Lib.wpList_append_run _ rfl _ _ 22 22 rfl _ _ rfl rfl _ _ hr3 ?_;clear hr3) | (refine Lib.wpList_append_run _ rfl _ _ 22 22 rfl _ _ rfl rfl _ _ hr4 ?_;clear hr4));go_region_held3 (fun w'=>w'.cell? ⟨gv,ov,none⟩=some (iv x0.k)∧w'.cell? ⟨gv,ov+1,none⟩=some (iv x0.n)∧w'.cell? ⟨gv,ov+2,none⟩=some (bz x0.t)∧w'.cell? ⟨gv,ov+3,none⟩=some (.slice ax x0.l.length cx)∧w'.cell? ⟨wr.heap.size,1,none⟩=some (iv (an:Int))∧w'.cell? ⟨p,2,none⟩=some (sL gl 0 sts'.length sc)) (go_keep) (fail);go_wp2_with fail;go_roundg gg
       case measure=>omega
       case rel=>exact⟨gg,rfl,by omega,Hf.out⟩
     ·as_aux_lemma=>
       have hx:vmI it15 m ⟨6,a⟩ q loc sb vs sts' fl'=.go (q+1) loc sb sts' fl':=by simp[vmI]
       obtain⟨v1,v2,v3⟩:=HG.out _ _ _ _ _ hx;have Hfin:Hid (MR base p A1 m states (.slice ac m.consts.length cc) (sL gf of m.funcs.length cf) ss ls n f (sL gi oi f.code.length ck) H w.heap.size w0.heap.size (.cells #[iv 0,iv 0,.string ⟨#[]⟩,sZ] 31 (0,0)) (.cells #[iv f.params,iv f.locals,iv f.zero,iv f.stack,sL gi oi f.code.length ck] 52 (0,0)) o w gg (.slice at4 sb.length ct4) (iv ((q+1:Nat):Int)) w4):=⟨q+1,loc,sb,sts',fl',0,at4,ct4,rfl,rfl,HF4.out,HGs.out.vs,HFr4.out,Or.inl ⟨rfl,v1,v2,v3⟩⟩;clear HVc Hvs9 HF0 HFr0 HB4 HO4 HF4 HGs HFr4 HG HD HV HC Hvs4 Hsvs Hvn Hio Hi v1 v2 v3 hx;go_wp2_with (at_builtin;first | (refine Lib.wpList_append_run _ rfl _ _ 22 22 rfl _ _ rfl rfl _ _ hr3 ?_;clear hr3) | (refine Lib.wpList_append_run _ rfl _ _ 22 22 rfl _ _ rfl rfl _ _ hr4 ?_;clear hr4));go_roundg gg
       case measure=>omega
       case rel=>exact⟨gg,rfl,by omega,Hfin⟩
     ·as_aux_lemma=>
       have hlow:0<=a:=by have:=(Au.1 Hio.out).2.2.1;unfold Bc at this;simpa using this
       obtain⟨an,Han⟩:∃an:Nat,Hid (a=(an:Int)):=⟨a.toNat,by show _=_;omega⟩;have hat:a.toNat=an:=by have:=Han.out;omega
       by_cases hb:a<=(q:Int)
       ·by_cases hf1:fl'<1
        ·have ho:=HD.out _ (show vmI it15 m ⟨7,a⟩ q loc sb vs sts' fl'=.done ⟨zV,sts',0,54⟩ from by simp[vmI,hb,hf1]);have hCh:=Cn HF4.out.s.mc (n:=1) (by omega) hfl';have Hfin:Hid (∀w5,Mc p w5 (.slice ac m.consts.length cc) (sL gf of m.funcs.length cf) ss (chF fl' 1) (chT fl' 1)->Fr (fun k=>k≠p) w4 w5->MR base p A1 m states (.slice ac m.consts.length cc) (sL gf of m.funcs.length cf) ss ls n f (sL gi oi f.code.length ck) H w.heap.size w0.heap.size (.cells #[iv 0,iv 0,.string ⟨#[]⟩,sZ] 31 (0,0)) (.cells #[iv f.params,iv f.locals,iv f.zero,iv f.stack,sL gi oi f.code.length ck] 52 (0,0)) o w gg (.slice at4 sb.length ct4) (iv a) w5):=fun w5 h1 h2=>⟨an,loc,sb,sts',chF fl' 1,chT fl' 1,at4,ct4,rfl,by rw[Han.out],HF4.out.box h2 h1,HGs.out.vs.since ⟨h2.size,fun k hk hl=>h2.block k (fun e=>HF4.out.s.np (e ▸ hk.1)) hl⟩,HFr4.out.trans (h2.mono (fun k hk=>hk.1)),Or.inr ⟨by unfold chT;rw[if_pos hf1];omega,by rw[<-ho];unfold chT;rw[if_pos hf1],by rw[<-ho];unfold chF;rw[if_pos hf1],by rw[<-ho]⟩⟩
         clear HVc Hvs9 HF0 HFr0 HB4 HO4 HF4 HGs HFr4 HG HD HV HC Hvs4 Hsvs Hvn Hio Hi ho hf1;go_wp2_with (at_builtin;first | (refine Lib.wpList_append_run _ rfl _ _ 22 22 rfl _ _ rfl rfl _ _ hr3 ?_;clear hr3) | (refine Lib.wpList_append_run _ rfl _ _ 22 22 rfl _ _ rfl rfl _ _ hr4 ?_;clear hr4));refine hCh.mono ?_;rintro r w5 ⟨rfl,hm5,hf5⟩;obtain⟨d0'',d1'',-,-,hdl''⟩:=Ae ((hf5.block _ (by show _≠_;omega) hdl').trans Hx4.out);have Hf:=Hfin.out w5 hm5 hf5;replace Hf:Hid _:=Hf;clear Hfin hCh hm5 hf5 d0' d1';go_wp2_with fail;go_roundg gg
         case measure=>omega
         case rel=>exact⟨gg,rfl,by omega,Hf.out⟩
        ·have hx:vmI it15 m ⟨7,a⟩ q loc sb vs sts' fl'=.go an loc sb sts' (fl' - 1):=by simp[vmI,hb,hf1,hat]
         obtain⟨v1,v2,v3⟩:=HG.out _ _ _ _ _ hx;have hCh:=Cn HF4.out.s.mc (n:=1) (by omega) hfl';have Hfin:Hid (∀w5,Mc p w5 (.slice ac m.consts.length cc) (sL gf of m.funcs.length cf) ss (chF fl' 1) (chT fl' 1)->Fr (fun k=>k≠p) w4 w5->MR base p A1 m states (.slice ac m.consts.length cc) (sL gf of m.funcs.length cf) ss ls n f (sL gi oi f.code.length ck) H w.heap.size w0.heap.size (.cells #[iv 0,iv 0,.string ⟨#[]⟩,sZ] 31 (0,0)) (.cells #[iv f.params,iv f.locals,iv f.zero,iv f.stack,sL gi oi f.code.length ck] 52 (0,0)) o w gg (.slice at4 sb.length ct4) (iv a) w5):=fun w5 h1 h2=>⟨an,loc,sb,sts',chF fl' 1,chT fl' 1,at4,ct4,rfl,by rw[Han.out],HF4.out.box h2 h1,HGs.out.vs.since ⟨h2.size,fun k hk hl=>h2.block k (fun e=>HF4.out.s.np (e ▸ hk.1)) hl⟩,HFr4.out.trans (h2.mono (fun k hk=>hk.1)),Or.inl ⟨by unfold chT;rw[if_neg hf1],by unfold chF;rw[if_neg hf1];exact v1,by unfold chF;rw[if_neg hf1];exact v2,by unfold chF;rw[if_neg hf1];omega⟩⟩
         clear HVc Hvs9 HF0 HFr0 HB4 HO4 HF4 HGs HFr4 HG HD HV HC Hvs4 Hsvs Hvn Hio Hi hf1 v1 v2 v3 hx;go_wp2_with (at_builtin;first | (refine Lib.wpList_append_run _ rfl _ _ 22 22 rfl _ _ rfl rfl _ _ hr3 ?_;clear hr3) | (refine Lib.wpList_append_run _ rfl _ _ 22 22 rfl _ _ rfl rfl _ _ hr4 ?_;clear hr4));refine hCh.mono ?_;rintro r w5 ⟨rfl,hm5,hf5⟩;obtain⟨d0'',d1'',-,-,hdl''⟩:=Ae ((hf5.block _ (by show _≠_;omega) hdl').trans Hx4.out);have Hf:=Hfin.out w5 hm5 hf5;replace Hf:Hid _:=Hf;clear Hfin hCh hm5 hf5 d0' d1';go_wp2_with fail;go_roundg gg
         case measure=>omega
         case rel=>exact⟨gg,rfl,by omega,Hf.out⟩
       ·have hx:vmI it15 m ⟨7,a⟩ q loc sb vs sts' fl'=.go an loc sb sts' fl':=by simp[vmI,hb,hat]
        obtain⟨v1,v2,v3⟩:=HG.out _ _ _ _ _ hx;have Hfin:Hid (MR base p A1 m states (.slice ac m.consts.length cc) (sL gf of m.funcs.length cf) ss ls n f (sL gi oi f.code.length ck) H w.heap.size w0.heap.size (.cells #[iv 0,iv 0,.string ⟨#[]⟩,sZ] 31 (0,0)) (.cells #[iv f.params,iv f.locals,iv f.zero,iv f.stack,sL gi oi f.code.length ck] 52 (0,0)) o w gg (.slice at4 sb.length ct4) (iv a) w4):=⟨an,loc,sb,sts',fl',0,at4,ct4,rfl,by rw[Han.out],HF4.out,HGs.out.vs,HFr4.out,Or.inl ⟨rfl,v1,v2,v3⟩⟩;clear HVc Hvs9 HF0 HFr0 HB4 HO4 HF4 HGs HFr4 HG HD HV HC Hvs4 Hsvs Hvn Hio Hi v1 v2 v3 hx;go_wp2_with (at_builtin;first | (refine Lib.wpList_append_run _ rfl _ _ 22 22 rfl _ _ rfl rfl _ _ hr3 ?_;clear hr3) | (refine Lib.wpList_append_run _ rfl _ _ 22 22 rfl _ _ rfl rfl _ _ hr4 ?_;clear hr4));go_roundg gg
        case measure=>omega
        case rel=>exact⟨gg,rfl,by omega,Hfin.out⟩
     ·as_aux_lemma=>
       have hv1:vs.length=1:=by have:=Hvn.out;unfold popN Eh at this;simp at this;omega
       obtain⟨x0,rfl⟩:=List.length_eq_one_iff.1 hv1;obtain⟨gv,ov,ax,cx,rfl,hBgv,hgv,x0',x1',x2',x3',hw0⟩:=Hvs4.out.get (i:=0) (x:=x0) rfl;simp only[Nat.zero_mul,Nat.add_zero] at x0' x1' x2' x3';have hlow:0<=a:=by have:=(Au.1 Hio.out).2.2.1;unfold Bc at this;simpa using this
       obtain⟨an,Han⟩:∃an:Nat,Hid (a=(an:Int)):=⟨a.toNat,by show _=_;omega⟩;have hat:a.toNat=an:=by have:=Han.out;omega
       by_cases hk:x0.k=2
       ·have hkb:(x0.k != 2)=false:=by simp[hk]
        by_cases hn:x0.n=0
        ·have hnb:(x0.n == 0)=true:=by simp[hn]
         by_cases hb:a<=(q:Int)
         ·by_cases hf1:fl'<1
          ·have ho:=HD.out _ (show vmI it15 m ⟨8,a⟩ q loc sb [x0] sts' fl'=.done ⟨zV,sts',0,54⟩ from by simp[vmI,hb,hf1,hk,hn]);have hCh:=Cn HF4.out.s.mc (n:=1) (by omega) hfl';have Hfin:Hid (∀w5,Mc p w5 (.slice ac m.consts.length cc) (sL gf of m.funcs.length cf) ss (chF fl' 1) (chT fl' 1)->Fr (fun k=>k≠p) w4 w5->MR base p A1 m states (.slice ac m.consts.length cc) (sL gf of m.funcs.length cf) ss ls n f (sL gi oi f.code.length ck) H w.heap.size w0.heap.size (.cells #[iv 0,iv 0,.string ⟨#[]⟩,sZ] 31 (0,0)) (.cells #[iv f.params,iv f.locals,iv f.zero,iv f.stack,sL gi oi f.code.length ck] 52 (0,0)) o w gg (.slice at4 sb.length ct4) (iv a) w5):=fun w5 h1 h2=>⟨an,loc,sb,sts',chF fl' 1,chT fl' 1,at4,ct4,rfl,by rw[Han.out],HF4.out.box h2 h1,HGs.out.vs.since ⟨h2.size,fun k hk hl=>h2.block k (fun e=>HF4.out.s.np (e ▸ hk.1)) hl⟩,HFr4.out.trans (h2.mono (fun k hk=>hk.1)),Or.inr ⟨by unfold chT;rw[if_pos hf1];omega,by rw[<-ho];unfold chT;rw[if_pos hf1],by rw[<-ho];unfold chF;rw[if_pos hf1],by rw[<-ho]⟩⟩
           clear HneA HVc Hvs9 HF0 HFr0 HB4 HO4 HF4 HGs HFr4 HG HD HV HC Hvs4 Hsvs Hvn Hio Hi ho hf1;simp only[List.length_singleton] at *;go_wp2_with (at_builtin;first | (refine Lib.wpList_append_run _ rfl _ _ 22 22 rfl _ _ rfl rfl _ _ hr3 ?_;clear hr3) | (refine Lib.wpList_append_run _ rfl _ _ 22 22 rfl _ _ rfl rfl _ _ hr4 ?_;clear hr4));refine hCh.mono ?_;rintro r w5 ⟨rfl,hm5,hf5⟩;obtain⟨d0'',d1'',-,-,hdl''⟩:=Ae ((hf5.block _ (by show _≠_;omega) hdl').trans Hx4.out);have Hf:=Hfin.out w5 hm5 hf5;replace Hf:Hid _:=Hf;clear Hfin hCh hm5 hf5 d0' d1';go_wp2_with fail;go_roundg gg
           case measure=>omega
           case rel=>exact⟨gg,rfl,by omega,Hf.out⟩
          ·have hx:vmI it15 m ⟨8,a⟩ q loc sb [x0] sts' fl'=.go an loc sb sts' (fl' - 1):=by simp[vmI,hb,hf1,hat,hk,hn]
           obtain⟨v1,v2,v3⟩:=HG.out _ _ _ _ _ hx;have hCh:=Cn HF4.out.s.mc (n:=1) (by omega) hfl';have Hfin:Hid (∀w5,Mc p w5 (.slice ac m.consts.length cc) (sL gf of m.funcs.length cf) ss (chF fl' 1) (chT fl' 1)->Fr (fun k=>k≠p) w4 w5->MR base p A1 m states (.slice ac m.consts.length cc) (sL gf of m.funcs.length cf) ss ls n f (sL gi oi f.code.length ck) H w.heap.size w0.heap.size (.cells #[iv 0,iv 0,.string ⟨#[]⟩,sZ] 31 (0,0)) (.cells #[iv f.params,iv f.locals,iv f.zero,iv f.stack,sL gi oi f.code.length ck] 52 (0,0)) o w gg (.slice at4 sb.length ct4) (iv a) w5):=fun w5 h1 h2=>⟨an,loc,sb,sts',chF fl' 1,chT fl' 1,at4,ct4,rfl,by rw[Han.out],HF4.out.box h2 h1,HGs.out.vs.since ⟨h2.size,fun k hk hl=>h2.block k (fun e=>HF4.out.s.np (e ▸ hk.1)) hl⟩,HFr4.out.trans (h2.mono (fun k hk=>hk.1)),Or.inl ⟨by unfold chT;rw[if_neg hf1],by unfold chF;rw[if_neg hf1];exact v1,by unfold chF;rw[if_neg hf1];exact v2,by unfold chF;rw[if_neg hf1];omega⟩⟩
           clear HneA HVc Hvs9 HF0 HFr0 HB4 HO4 HF4 HGs HFr4 HG HD HV HC Hvs4 Hsvs Hvn Hio Hi hf1 v1 v2 v3 hx;simp only[List.length_singleton] at *;go_wp2_with (at_builtin;first | (refine Lib.wpList_append_run _ rfl _ _ 22 22 rfl _ _ rfl rfl _ _ hr3 ?_;clear hr3) | (refine Lib.wpList_append_run _ rfl _ _ 22 22 rfl _ _ rfl rfl _ _ hr4 ?_;clear hr4));refine hCh.mono ?_;rintro r w5 ⟨rfl,hm5,hf5⟩;obtain⟨d0'',d1'',-,-,hdl''⟩:=Ae ((hf5.block _ (by show _≠_;omega) hdl').trans Hx4.out);have Hf:=Hfin.out w5 hm5 hf5;replace Hf:Hid _:=Hf;clear Hfin hCh hm5 hf5 d0' d1';go_wp2_with fail;go_roundg gg
           case measure=>omega
           case rel=>exact⟨gg,rfl,by omega,Hf.out⟩
         ·have hx:vmI it15 m ⟨8,a⟩ q loc sb [x0] sts' fl'=.go an loc sb sts' fl':=by simp[vmI,hb,hat,hk,hn]
          obtain⟨v1,v2,v3⟩:=HG.out _ _ _ _ _ hx;have Hfin:Hid (MR base p A1 m states (.slice ac m.consts.length cc) (sL gf of m.funcs.length cf) ss ls n f (sL gi oi f.code.length ck) H w.heap.size w0.heap.size (.cells #[iv 0,iv 0,.string ⟨#[]⟩,sZ] 31 (0,0)) (.cells #[iv f.params,iv f.locals,iv f.zero,iv f.stack,sL gi oi f.code.length ck] 52 (0,0)) o w gg (.slice at4 sb.length ct4) (iv a) w4):=⟨an,loc,sb,sts',fl',0,at4,ct4,rfl,by rw[Han.out],HF4.out,HGs.out.vs,HFr4.out,Or.inl ⟨rfl,v1,v2,v3⟩⟩;clear HneA HVc Hvs9 HF0 HFr0 HB4 HO4 HF4 HGs HFr4 HG HD HV HC Hvs4 Hsvs Hvn Hio Hi v1 v2 v3 hx;simp only[List.length_singleton] at *;go_wp2_with (at_builtin;first | (refine Lib.wpList_append_run _ rfl _ _ 22 22 rfl _ _ rfl rfl _ _ hr3 ?_;clear hr3) | (refine Lib.wpList_append_run _ rfl _ _ 22 22 rfl _ _ rfl rfl _ _ hr4 ?_;clear hr4));go_roundg gg
          case measure=>omega
          case rel=>exact⟨gg,rfl,by omega,Hfin.out⟩
        ·have hnb:(x0.n == 0)=false:=by simpa using hn
         have hx:vmI it15 m ⟨8,a⟩ q loc sb [x0] sts' fl'=.go (q+1) loc sb sts' fl':=by simp[vmI,hk,hn]
         obtain⟨v1,v2,v3⟩:=HG.out _ _ _ _ _ hx;have Hfin:Hid (MR base p A1 m states (.slice ac m.consts.length cc) (sL gf of m.funcs.length cf) ss ls n f (sL gi oi f.code.length ck) H w.heap.size w0.heap.size (.cells #[iv 0,iv 0,.string ⟨#[]⟩,sZ] 31 (0,0)) (.cells #[iv f.params,iv f.locals,iv f.zero,iv f.stack,sL gi oi f.code.length ck] 52 (0,0)) o w gg (.slice at4 sb.length ct4) (iv ((q+1:Nat):Int)) w4):=⟨q+1,loc,sb,sts',fl',0,at4,ct4,rfl,rfl,HF4.out,HGs.out.vs,HFr4.out,Or.inl ⟨rfl,v1,v2,v3⟩⟩;clear HVc Hvs9 HF0 HFr0 HB4 HO4 HF4 HGs HFr4 HG HD HV HC Hvs4 Hsvs Hvn Hio Hi v1 v2 v3 hx hw0 hk hn;simp only[List.length_singleton] at *;go_wp2_with (at_builtin;first | (refine Lib.wpList_append_run _ rfl _ _ 22 22 rfl _ _ rfl rfl _ _ hr3 ?_;clear hr3) | (refine Lib.wpList_append_run _ rfl _ _ 22 22 rfl _ _ rfl rfl _ _ hr4 ?_;clear hr4));go_roundg gg
         case measure=>omega
         case rel=>exact⟨gg,rfl,by omega,Hfin.out⟩
       ·have hkb:(x0.k != 2)=true:=by simpa using hk
        by_cases hn:x0.n=0
        ·have hnb:(x0.n == 0)=true:=by simp[hn]
         clear hn;by_cases hb:a<=(q:Int)
         ·have ho:=HD.out _ (show vmI it15 m ⟨8,a⟩ q loc sb [x0] sts' fl'=.done ⟨zV,sts',fl',40⟩ from by simp[vmI,hk]);have hTr:=E5 HF4.out.s.mc 40;obtain⟨w5,hW5⟩:∃w5,w4.setCell ⟨p,4,none⟩ (iv 40)=w5:=⟨_,rfl⟩;rw[hW5] at hTr;have hm5:Mc p w5 (.slice ac m.consts.length cc) (sL gf of m.funcs.length cf) ss fl' 40:=by rw[<-hW5];exact HF4.out.s.mc.setT 40
          have hf5:Fr (fun k=>k≠p) w4 w5:=by rw[<-hW5];exact Fr.set (by simp) _ _
          have Hf:Hid (MR base p A1 m states (.slice ac m.consts.length cc) (sL gf of m.funcs.length cf) ss ls n f (sL gi oi f.code.length ck) H w.heap.size w0.heap.size (.cells #[iv 0,iv 0,.string ⟨#[]⟩,sZ] 31 (0,0)) (.cells #[iv f.params,iv f.locals,iv f.zero,iv f.stack,sL gi oi f.code.length ck] 52 (0,0)) o w gg (.slice at4 sb.length ct4) (iv a) w5):=⟨an,loc,sb,sts',fl',40,at4,ct4,rfl,by rw[Han.out],HF4.out.box hf5 hm5,HGs.out.vs.since ⟨hf5.size,fun k hk hl=>hf5.block k (fun e=>HF4.out.s.np (e ▸ hk.1)) hl⟩,HFr4.out.trans (hf5.mono (fun k hk=>hk.1)),Or.inr ⟨by omega,by rw[<-ho],by rw[<-ho],by rw[<-ho]⟩⟩;have hgvp:gv≠p:=fun e=>HF4.out.s.np (e ▸ hBgv.1)
          obtain⟨d0'',d1'',-,-,hdl''⟩:=Ae ((hf5.block _ (by show _≠_;omega) hdl').trans Hx4.out);have hc5:∀o,w5.cell? ⟨gv,o,none⟩=w4.cell? ⟨gv,o,none⟩:=fun o=>by
           have:=hf5.block gv hgvp hgv;simp[World.cell?,this]
          have s1:=(hc5 (ov+1)).trans x1';have hgv5:gv<w5.heap.size:=Nat.lt_of_lt_of_le hgv hf5.size;have hCn:=Nw hm5 (by omega) 1;clear HVc Hvs9 HF0 HFr0 HB4 HO4 HF4 HGs HFr4 HG HD HV HC Hvs4 Hsvs Hvn Hio Hi ho hw0 hk hm5 hf5 hgvp hc5 HneA;simp only[List.length_singleton] at *;go_wp2_with (at_builtin;first | (refine Lib.wpList_append_run _ rfl _ _ 22 22 rfl _ _ rfl rfl _ _ hr3 ?_;clear hr3) | (refine Lib.wpList_append_run _ rfl _ _ 22 22 rfl _ _ rfl rfl _ _ hr4 ?_;clear hr4));refine hTr.mono ?_;rintro r w6 ⟨rfl,rfl⟩;clear hTr hW5 d0' d1' x0' x1' x2' x3';go_wp2_with fail;refine hCn.mono ?_;rintro r w7 ⟨rfl,rfl⟩;clear hCn;go_wp2_with fail;go_roundg gg
          case measure=>omega
          case rel=>exact⟨gg,rfl,by omega,Hf.out⟩
         ·have ho:=HD.out _ (show vmI it15 m ⟨8,a⟩ q loc sb [x0] sts' fl'=.done ⟨zV,sts',fl',40⟩ from by simp[vmI,hk]);have hTr:=E5 HF4.out.s.mc 40;obtain⟨w5,hW5⟩:∃w5,w4.setCell ⟨p,4,none⟩ (iv 40)=w5:=⟨_,rfl⟩;rw[hW5] at hTr;have hm5:Mc p w5 (.slice ac m.consts.length cc) (sL gf of m.funcs.length cf) ss fl' 40:=by rw[<-hW5];exact HF4.out.s.mc.setT 40
          have hf5:Fr (fun k=>k≠p) w4 w5:=by rw[<-hW5];exact Fr.set (by simp) _ _
          have Hf:Hid (MR base p A1 m states (.slice ac m.consts.length cc) (sL gf of m.funcs.length cf) ss ls n f (sL gi oi f.code.length ck) H w.heap.size w0.heap.size (.cells #[iv 0,iv 0,.string ⟨#[]⟩,sZ] 31 (0,0)) (.cells #[iv f.params,iv f.locals,iv f.zero,iv f.stack,sL gi oi f.code.length ck] 52 (0,0)) o w gg (.slice at4 sb.length ct4) (iv a) w5):=⟨an,loc,sb,sts',fl',40,at4,ct4,rfl,by rw[Han.out],HF4.out.box hf5 hm5,HGs.out.vs.since ⟨hf5.size,fun k hk hl=>hf5.block k (fun e=>HF4.out.s.np (e ▸ hk.1)) hl⟩,HFr4.out.trans (hf5.mono (fun k hk=>hk.1)),Or.inr ⟨by omega,by rw[<-ho],by rw[<-ho],by rw[<-ho]⟩⟩;have hgvp:gv≠p:=fun e=>HF4.out.s.np (e ▸ hBgv.1)
          obtain⟨d0'',d1'',-,-,hdl''⟩:=Ae ((hf5.block _ (by show _≠_;omega) hdl').trans Hx4.out);have hc5:∀o,w5.cell? ⟨gv,o,none⟩=w4.cell? ⟨gv,o,none⟩:=fun o=>by
           have:=hf5.block gv hgvp hgv;simp[World.cell?,this]
          have s1:=(hc5 (ov+1)).trans x1';have hgv5:gv<w5.heap.size:=Nat.lt_of_lt_of_le hgv hf5.size;clear HVc Hvs9 HF0 HFr0 HB4 HO4 HF4 HGs HFr4 HG HD HV HC Hvs4 Hsvs Hvn Hio Hi ho hw0 hk hm5 hf5 hgvp hc5 HneA;simp only[List.length_singleton] at *;go_wp2_with (at_builtin;first | (refine Lib.wpList_append_run _ rfl _ _ 22 22 rfl _ _ rfl rfl _ _ hr3 ?_;clear hr3) | (refine Lib.wpList_append_run _ rfl _ _ 22 22 rfl _ _ rfl rfl _ _ hr4 ?_;clear hr4));refine hTr.mono ?_;rintro r w6 ⟨rfl,rfl⟩;clear hTr hW5 d0' d1' x0' x1' x2' x3';go_wp2_with fail;go_roundg gg
          case measure=>omega
          case rel=>exact⟨gg,rfl,by omega,Hf.out⟩
        ·have hnb:(x0.n == 0)=false:=by simpa using hn
         have ho:=HD.out _ (show vmI it15 m ⟨8,a⟩ q loc sb [x0] sts' fl'=.done ⟨zV,sts',fl',40⟩ from by simp[vmI,hk]);have hTr:=E5 HF4.out.s.mc 40;obtain⟨w5,hW5⟩:∃w5,w4.setCell ⟨p,4,none⟩ (iv 40)=w5:=⟨_,rfl⟩;rw[hW5] at hTr;have hm5:Mc p w5 (.slice ac m.consts.length cc) (sL gf of m.funcs.length cf) ss fl' 40:=by rw[<-hW5];exact HF4.out.s.mc.setT 40
         have hf5:Fr (fun k=>k≠p) w4 w5:=by rw[<-hW5];exact Fr.set (by simp) _ _
         have Hf:Hid (MR base p A1 m states (.slice ac m.consts.length cc) (sL gf of m.funcs.length cf) ss ls n f (sL gi oi f.code.length ck) H w.heap.size w0.heap.size (.cells #[iv 0,iv 0,.string ⟨#[]⟩,sZ] 31 (0,0)) (.cells #[iv f.params,iv f.locals,iv f.zero,iv f.stack,sL gi oi f.code.length ck] 52 (0,0)) o w gg (.slice at4 sb.length ct4) (iv ((q+1:Nat):Int)) w5):=⟨q+1,loc,sb,sts',fl',40,at4,ct4,rfl,rfl,HF4.out.box hf5 hm5,HGs.out.vs.since ⟨hf5.size,fun k hk hl=>hf5.block k (fun e=>HF4.out.s.np (e ▸ hk.1)) hl⟩,HFr4.out.trans (hf5.mono (fun k hk=>hk.1)),Or.inr ⟨by omega,by rw[<-ho],by rw[<-ho],by rw[<-ho]⟩⟩;have hgvp:gv≠p:=fun e=>HF4.out.s.np (e ▸ hBgv.1)
         obtain⟨d0'',d1'',-,-,hdl''⟩:=Ae ((hf5.block _ (by show _≠_;omega) hdl').trans Hx4.out);have hc5:∀o,w5.cell? ⟨gv,o,none⟩=w4.cell? ⟨gv,o,none⟩:=fun o=>by
          have:=hf5.block gv hgvp hgv;simp[World.cell?,this]
         have s1:=(hc5 (ov+1)).trans x1';have hgv5:gv<w5.heap.size:=Nat.lt_of_lt_of_le hgv hf5.size;clear HVc Hvs9 HF0 HFr0 HB4 HO4 HF4 HGs HFr4 HG HD HV HC Hvs4 Hsvs Hvn Hio Hi ho hw0 hk hm5 hf5 hgvp hc5 HneA;simp only[List.length_singleton] at *;go_wp2_with (at_builtin;first | (refine Lib.wpList_append_run _ rfl _ _ 22 22 rfl _ _ rfl rfl _ _ hr3 ?_;clear hr3) | (refine Lib.wpList_append_run _ rfl _ _ 22 22 rfl _ _ rfl rfl _ _ hr4 ?_;clear hr4));refine hTr.mono ?_;rintro r w6 ⟨rfl,rfl⟩;clear hTr hW5 d0' d1' x0' x1' x2' x3';go_wp2_with fail;go_roundg gg
         case measure=>omega
         case rel=>exact⟨gg,rfl,by omega,Hf.out⟩
     ·as_aux_lemma=>
       have hlow:0<=a:=by have:=(Au.1 Hio.out).2.2.1;unfold Bc at this;simpa using this
       have hup:a<(n:Int):=by have:=(Au.1 Hio.out).2.2.2;unfold Bx at this;simpa using this
       obtain⟨an,rfl⟩:∃an:Nat,a=(an:Int):=⟨a.toNat,by omega⟩;have han0:(0:Int)<=(an:Int):=by omega
       have hnl':=(List.getElem?_eq_some_iff.1 HV.out.hf).1;obtain⟨f',hf'⟩:∃f',m.funcs[an]?=some f':=⟨_,List.getElem?_eq_getElem (by omega)⟩;have hCh:=Cn HF4.out.s.mc (n:=1) (by omega) hfl';by_cases hf1:fl'<1
       ·have ho:=HD.out _ (show vmI it15 m ⟨9,(an:Int)⟩ q loc sb vs sts' fl'=.done ⟨zV,sts',0,54⟩ from by simp[vmI,hf1]);have e1:chT fl' 1=54:=by unfold chT;rw[if_pos hf1]
        have e2:chF fl' 1=0:=by unfold chF;rw[if_pos hf1]
        rw[e1,e2] at hCh;have Hfin:Hid (∀w5,Mc p w5 (.slice ac m.consts.length cc) (sL gf of m.funcs.length cf) ss 0 54->Fr (fun k=>k≠p) w4 w5->MR base p A1 m states (.slice ac m.consts.length cc) (sL gf of m.funcs.length cf) ss ls n f (sL gi oi f.code.length ck) H w.heap.size w0.heap.size (.cells #[iv 0,iv 0,.string ⟨#[]⟩,sZ] 31 (0,0)) (.cells #[iv f.params,iv f.locals,iv f.zero,iv f.stack,sL gi oi f.code.length ck] 52 (0,0)) o w gg (.slice at4 sb.length ct4) (iv ((q+1:Nat):Int)) w5):=fun w5 h1 h2=>⟨q+1,loc,sb,sts',0,54,at4,ct4,rfl,rfl,HF4.out.box h2 h1,HGs.out.vs.since ⟨h2.size,fun k hk hl=>h2.block k (fun e=>HF4.out.s.np (e ▸ hk.1)) hl⟩,HFr4.out.trans (h2.mono (fun k hk=>hk.1)),Or.inr ⟨by omega,by rw[<-ho],by rw[<-ho],by rw[<-ho]⟩⟩
        clear HVc Hvs9 HF0 HFr0 HB4 HO4 HF4 HGs HFr4 HG HD HV HC Hvs4 Hsvs Hvn Hio Hi ho hf1 e1 e2 hf';go_wp2_with (at_builtin;first | (refine Lib.wpList_append_run _ rfl _ _ 22 22 rfl _ _ rfl rfl _ _ hr3 ?_;clear hr3) | (refine Lib.wpList_append_run _ rfl _ _ 22 22 rfl _ _ rfl rfl _ _ hr4 ?_;clear hr4));refine hCh.mono ?_;rintro r w5 ⟨rfl,hm5,hf5⟩;have Hf:=Hfin.out w5 hm5 hf5;replace Hf:Hid _:=Hf;obtain⟨-,-,-,-,c4'',-,-,-,-,-,hlp''⟩:=Ak hm5;clear Hfin hCh hm5 hf5 d0' d1' c4';go_wp2_with fail;go_roundg gg
        case measure=>omega
        case rel=>exact⟨gg,rfl,by omega,Hf.out⟩
       ·have hx:vmI it15 m ⟨9,(an:Int)⟩ q loc sb vs sts' fl'=.call an (loc0 f' vs) sb (fl' - 1):=by simp[vmI,hf1,hf']
        obtain⟨o',h1,h2,h3⟩:=HC.out _ _ _ _ hx;obtain⟨⟨f2,H2,hV2⟩,hback⟩:=HVc.out _ _ _ _ hx;have ef:f2=f':=Option.some.inj (hV2.hf.symm.trans hf');subst ef;have hpar2:(vs.length:Int)=f2.params:=by rw[Hvn.out];simp[popN,Eh,F0,hf']
        have hfu:=Dx (Fd hr) gg hV2.f0 h1;have e1:chT fl' 1=0:=by unfold chT;rw[if_neg hf1]
        have e2:chF fl' 1=fl' - 1:=by unfold chF;rw[if_neg hf1]
        rw[e1,e2] at hCh;have hAp:∀k,A1 k->k≠p:=fun k hk e=>HF4.out.s.np (e ▸ hk)
        have HP:Hid (∀w5,Mc p w5 (.slice ac m.consts.length cc) (sL gf of m.funcs.length cf) ss (fl' - 1) 0->Fr (fun k=>k≠p) w4 w5->Calls Tryz.prog 34 #[pt p 0,iv (an:Int),.slice av vs.length cv] w5 (Jh base p (B9 A1 ls (.slice at4 sb.length ct4)) m (.slice ac m.consts.length cc) (sL gf of m.funcs.length cf) ss o' w5)):=fun w5 g1 g2=>by
         refine ih gg (by omega) (B9 A1 ls (.slice at4 sb.length ct4)) (.slice ac m.consts.length cc) (sL gf of m.funcs.length cf) ss an f2 H2 vs sts' av cv (fl' - 1) o' w5 (HF0.out.s.call9 ((Fr.of_below HB4.out).trans g2) g1 (fun k e=>⟨Nat.le_of_lt (HO4.out k e),Nat.lt_of_lt_of_le (HGs.out.lt e).2 g2.size⟩)) (Hvs9.out.since ⟨g2.size,fun k hk hl=>g2.block k (hAp k hk.1.1) hl⟩) hpar2 hV2 (by omega) h1
        have HQ:Hid (∀w5 w6 ao cap,Fr (fun k=>k≠p) w4 w5->Fr (fun k=>k≠p∧ss.ownBlock≠some k) w5 w6->IsW (B9 A1 ls (.slice at4 sb.length ct4)) w6 (A9 o') (.slice ao (A9 o').l.length cap)->VmO base p (B9 A1 ls (.slice at4 sb.length ct4)) m (.slice ac m.consts.length cc) (sL gf of m.funcs.length cf) ss o'.sts o'.fuel o'.trap w6->∃wa a6 c6 w7,w6.alloc (.cells #[iv (A9 o').k,iv (A9 o').n,.string ⟨(A9 o').t.toArray⟩,.slice ao (A9 o').l.length cap] 31)=wa∧(Builtin.append_ #[22,22] 22 #[.slice at4 sb.length ct4,sL w6.heap.size 0 1 1]).run Tryz.prog wa=.ok (.slice a6 (sb.length+1) c6) w7∧MR base p A1 m states (.slice ac m.consts.length cc) (sL gf of m.funcs.length cf) ss ls n f (sL gi oi f.code.length ck) H w.heap.size w0.heap.size (.cells #[iv 0,iv 0,.string ⟨#[]⟩,sZ] 31 (0,0)) (.cells #[iv f.params,iv f.locals,iv f.zero,iv f.stack,sL gi oi f.code.length ck] 52 (0,0)) o w gg (.slice a6 (sb.length+1) c6) (iv ((q+1:Nat):Int)) w7):=fun w5 w6 ao cap g1 g2 g3 g4=>by
         have hBp:∀k,Bq A1 ls k->k≠p∧ss.ownBlock≠some k:=fun k hk=>⟨hAp k hk.1,fun e=>HF4.out.s.ns k e hk.1⟩
         have hg5:Gv (Bq A1 ls) w5 (.slice at4 sb.length ct4) sb:=HGs.out.since ⟨g1.size,fun k hk hl=>g1.block k (hBp k hk).1 hl⟩;have hg6:Gv (Bq A1 ls) w6 (.slice at4 sb.length ct4) sb:=hg5.since ⟨g2.size,fun k hk hl=>g2.block k (hBp k hk) hl⟩;obtain⟨wa,a6,c6,w7,k1,k2,k3,k4,-⟩:=C6 hg6 g3 (by omega) (fun k hk=>HF4.out.s.bq (Nat.le_trans g1.size (Nat.le_trans g2.size hk)));have hf6:Fr (fun k=>k≠p∧ss.ownBlock≠some k) wr w6:=((Fr.of_below HB4.out).trans (g1.mono (fun k hk=>hk.1))).trans g2;obtain⟨m1,m2⟩:=HF0.out.push9 hf6 g4 (fun k e=>Nat.le_of_lt (HO4.out k e)) k4;have hl6:(sb ++ [A9 o']).length=sb.length+1:=by simp
         refine⟨wa,a6,c6,w7,k1,k2,q+1,loc,sb ++ [A9 o'],o'.sts,o'.fuel,o'.trap,a6,c6,by rw[hl6],rfl,m1,by rw[hl6];exact k3.vs,HFr0.out.trans m2,?_⟩;by_cases ht:o'.trap=0
         ·refine Or.inl ⟨ht,?_,?_,by omega⟩
          ·rw[Gg ht];exact hback gg o' h1 ht
          ·rw[Gg ht];exact h3 ht
         ·have:=h2 ht;exact Or.inr ⟨ht,by rw[this],by rw[this],by rw[this]⟩
        clear HVc Hvs9 HF0 HFr0 HB4 HO4 HF4 HGs HFr4 HG HD HV HC Hvs4 Hsvs Hvn Hio Hi hf1 e1 e2 hf' hx h1 h2 h3 hV2 hback hpar2 hfu hAp;clear ih;go_wp2_with (at_builtin;first | (refine Lib.wpList_append_run _ rfl _ _ 22 22 rfl _ _ rfl rfl _ _ hr3 ?_;clear hr3) | (refine Lib.wpList_append_run _ rfl _ _ 22 22 rfl _ _ rfl rfl _ _ hr4 ?_;clear hr4));refine hCh.mono ?_;rintro r w5 ⟨rfl,hm5,hf5⟩;have hDo:=HP.out w5 hm5 hf5;obtain⟨-,-,-,-,c4'',-,-,-,-,-,hlp''⟩:=Ak hm5;obtain⟨d0'',d1'',-,-,hdl''⟩:=Ae ((hf5.block _ (by show _≠_;omega) hdl').trans Hx4.out);clear HP hCh hm5 d0' d1' c4';go_wp2_with fail;refine hDo.mono ?_;rintro r w6 ⟨⟨ao,cap,rfl,hx6⟩,hO6,hfr6⟩;obtain⟨wa6,a6,c6,w7,hWa6,hr6,hM⟩:=HQ.out w5 w6 ao cap hf5 hfr6 hx6 hO6;replace hM:Hid _:=hM;clear HQ hDo hx6 hO6 hfr6 hf5;generalize A9 o'=vo at *;go_wp2_with (at_builtin;refine Lib.wpList_append_run _ rfl _ _ 22 22 rfl _ _ rfl rfl _ _ hr6 ?_;clear hr6);go_roundg gg
        case measure=>omega
        case rel=>exact⟨gg,rfl,by omega,hM.out⟩
     ·as_aux_lemma=>
       have hv1:vs.length=1:=by have:=Hvn.out;unfold popN Eh at this;simp at this;omega
       obtain⟨x0,rfl⟩:=List.length_eq_one_iff.1 hv1;obtain⟨gv,ov,ax,cx,rfl,-,hgv,x0',x1',x2',x3',hw0⟩:=Hvs4.out.get (i:=0) (x:=x0) rfl;have ho:=HD.out _ (show vmI it15 m ⟨10,a⟩ q loc sb [x0] sts' fl'=.done ⟨x0,sts',fl',0⟩ from by simp[vmI]);obtain⟨w8,hW8,hx8,hf8,hs8⟩:=Qh HF4.out.r (iv x0.k) (iv x0.n) (bz x0.t) (.slice ax x0.l.length cx);obtain⟨m0,m1,m2,m3,-⟩:=Aa hx8;have hl8:w.heap.size<w8.heap.size:=by omega
       have hfin:Jh base p A m (.slice ac m.consts.length cc) (sL gf of m.funcs.length cf) ss o w (.returned (.agg #[iv x0.k,iv x0.n,bz x0.t,.slice ax x0.l.length cx])) w8:=by
        obtain⟨g1,g2,g3⟩:=HF4.out.done (A:=A) (w:=w) hA1A hO.np hO.ns hO.hi HFr4.out (Nat.le_refl _) hO.mc.lt hw0 hf8;have hz:A9 o=x0:=by rw[<-ho];exact Gg rfl
        refine⟨⟨ax,cx,by rw[hz],by rw[hz];exact g1⟩,?_,g3⟩;rw[<-ho];exact g2
       clear HVc Hvs9 HF0 HFr0 HB4 HO4 HF4 HGs HFr4 HG HD HV HC Hvs4 Hsvs Hvn Hio Hi ih hO hw0 ho;simp only[Nat.zero_mul,Nat.add_zero] at x0' x1' x2' x3';simp only[List.length_singleton] at *;go_wp2_with (at_builtin;first | (refine Lib.wpList_append_run _ rfl _ _ 22 22 rfl _ _ rfl rfl _ _ hr3 ?_;clear hr3) | (refine Lib.wpList_append_run _ rfl _ _ 22 22 rfl _ _ rfl rfl _ _ hr4 ?_;clear hr4));exact bodyPost_ret (v:=.agg #[iv x0.k,iv x0.n,bz x0.t,.slice ax x0.l.length cx]) (by simp[results,Tryz.results34,go_sem,hl8,m0,m1,m2,m3]) rfl hfin
     ·as_aux_lemma=>
       have hlow:0<=a:=by have:=(Au.1 Hio.out).2.2.1;unfold Bc at this;simpa using this
       obtain⟨an,Han⟩:∃an:Nat,Hid (a=(an:Int)):=⟨a.toNat,by show _=_;omega⟩;have hat:a.toNat=an:=by have:=Han.out;omega
       have ha40:a<=1099511627776:=by have:=(Au.1 Hio.out).2.2.2;unfold Bx at this;simp at this;omega
       have hCh:=Cn HF4.out.s.mc (n:=a) (by omega) hfl';have Hfin:Hid (∀w5,Mc p w5 (.slice ac m.consts.length cc) (sL gf of m.funcs.length cf) ss (chF fl' a) (chT fl' a)->Fr (fun k=>k≠p) w4 w5->MR base p A1 m states (.slice ac m.consts.length cc) (sL gf of m.funcs.length cf) ss ls n f (sL gi oi f.code.length ck) H w.heap.size w0.heap.size (.cells #[iv 0,iv 0,.string ⟨#[]⟩,sZ] 31 (0,0)) (.cells #[iv f.params,iv f.locals,iv f.zero,iv f.stack,sL gi oi f.code.length ck] 52 (0,0)) o w gg (.slice at4 sb.length ct4) (iv ((q+1:Nat):Int)) w5):=fun w5 h1 h2=>⟨q+1,loc,sb,sts',chF fl' a,chT fl' a,at4,ct4,rfl,rfl,HF4.out.box h2 h1,HGs.out.vs.since ⟨h2.size,fun k hk hl=>h2.block k (fun e=>HF4.out.s.np (e ▸ hk.1)) hl⟩,HFr4.out.trans (h2.mono (fun k hk=>hk.1)),by
        by_cases hf1:fl'<a
        ·have ho:=HD.out _ (show vmI it15 m ⟨11,a⟩ q loc sb vs sts' fl'=.done ⟨zV,sts',0,54⟩ from by simp[vmI,hf1]);exact Or.inr ⟨by unfold chT;rw[if_pos hf1];omega,by rw[<-ho];unfold chT;rw[if_pos hf1],by rw[<-ho];unfold chF;rw[if_pos hf1],by rw[<-ho]⟩
        ·have hx:vmI it15 m ⟨11,a⟩ q loc sb vs sts' fl'=.go (q+1) loc sb sts' (fl' - a):=by simp[vmI,hf1]
         obtain⟨v1,v2,v3⟩:=HG.out _ _ _ _ _ hx;exact Or.inl ⟨by unfold chT;rw[if_neg hf1],by unfold chF;rw[if_neg hf1];exact v1,by unfold chF;rw[if_neg hf1];exact v2,by unfold chF;rw[if_neg hf1];exact v3⟩⟩
       clear HVc Hvs9 HF0 HFr0 HB4 HO4 HF4 HGs HFr4 HG HD HV HC Hvs4 Hsvs Hvn Hio Hi;go_wp2_with (at_builtin;first | (refine Lib.wpList_append_run _ rfl _ _ 22 22 rfl _ _ rfl rfl _ _ hr3 ?_;clear hr3) | (refine Lib.wpList_append_run _ rfl _ _ 22 22 rfl _ _ rfl rfl _ _ hr4 ?_;clear hr4));refine hCh.mono ?_;rintro r w5 ⟨rfl,hm5,hf5⟩;have Hf:=Hfin.out w5 hm5 hf5;replace Hf:Hid _:=Hf;clear Hfin hCh hm5 hf5 d0' d1';go_wp2_with fail;go_roundg gg
       case measure=>omega
       case rel=>exact⟨gg,rfl,by omega,Hf.out⟩
     ·as_aux_lemma=>
       have h21:op<=21:=(Au.1 Hio.out).2.1;have hMk:=Oy HF4.out.s.le HF4.out.s.tb HF4.out.s.mc Hvs4.out Hsvs.out h12 h21 Hvn.out;have hvI:=Tt (it:=it15) (m:=m) (i:=⟨op,a⟩) (p:=q) (loc:=loc) (s:=sb) (v:=vs) (sts:=sts') (fl:=fl') h12;generalize opV it15 ⟨op,a⟩ vs=ov at *;have b1:(op == 1)=false:=by simp;omega
       have b2:(op == 2)=false:=by simp;omega
       have b3:(op == 3)=false:=by simp;omega
       have b4:(op == 4)=false:=by simp;omega
       have b5:(op == 5)=false:=by simp;omega
       have b6:(op == 6)=false:=by simp;omega
       have b7:(op == 7)=false:=by simp;omega
       have b8:(op == 8)=false:=by simp;omega
       have b9:(op == 9)=false:=by simp;omega
       have b10:(op == 10)=false:=by simp;omega
       have b11:(op == 11)=false:=by simp;omega
       have Hfin:Hid (∀(w5 w6:World) (a6:Option Addr) (c6:Nat),Mc p w5 (.slice ac m.consts.length cc) (sL gf of m.funcs.length cf) ss fl' ov.2->Fr (fun k=>k≠p) w4 w5->Gv (Bq A1 ls) w6 (.slice a6 (sb.length+1) c6) (sb ++ [ov.1])->Fr (fun k=>(Value.slice at4 sb.length ct4).ownBlock≠some k) w5 w6->MR base p A1 m states (.slice ac m.consts.length cc) (sL gf of m.funcs.length cf) ss ls n f (sL gi oi f.code.length ck) H w.heap.size w0.heap.size (.cells #[iv 0,iv 0,.string ⟨#[]⟩,sZ] 31 (0,0)) (.cells #[iv f.params,iv f.locals,iv f.zero,iv f.stack,sL gi oi f.code.length ck] 52 (0,0)) o w gg (.slice a6 (sb.length+1) c6) (iv ((q+1:Nat):Int)) w6):=fun w5 w6 a6 c6 h1 h2 h3 h4=>by
        obtain⟨g1,g2⟩:=HF0.out.push HB4.out h2 h1 (fun k e=>Nat.le_of_lt (HO4.out k e)) h4;have hl6:(sb ++ [ov.1]).length=sb.length+1:=by simp
        refine⟨q+1,loc,sb ++ [ov.1],sts',fl',ov.2,a6,c6,by rw[hl6],rfl,g1,by rw[hl6];exact h3.vs,HFr0.out.trans (g2.mono (fun k hk=>hk.1)),?_⟩;by_cases hov:ov.2=0
        ·have hx:vmI it15 m ⟨op,a⟩ q loc sb vs sts' fl'=.go (q+1) loc (sb ++ [ov.1]) sts' fl':=by rw[hvI,if_neg (by simp[hov])]
         obtain⟨v1,v2,v3⟩:=HG.out _ _ _ _ _ hx;exact Or.inl ⟨hov,v1,v2,v3⟩
        ·have ho:=HD.out _ (show vmI it15 m ⟨op,a⟩ q loc sb vs sts' fl'=.done ⟨zV,sts',fl',ov.2⟩ from by rw[hvI,if_pos hov]);exact Or.inr ⟨hov,by rw[<-ho],by rw[<-ho],by rw[<-ho]⟩
       have Hpush:Hid (∀(w5:World) (ao:Option Addr) (cap:Nat),Fr (fun k=>k≠p) w4 w5->IsW (From w4.heap.size) w5 ov.1 (.slice ao ov.1.l.length cap)->∃wa a6 c6 w6,w5.alloc (.cells #[iv ov.1.k,iv ov.1.n,.string ⟨ov.1.t.toArray⟩,.slice ao ov.1.l.length cap] 31)=wa∧(Builtin.append_ #[22,22] 22 #[.slice at4 sb.length ct4,sL w5.heap.size 0 1 1]).run Tryz.prog wa=.ok (.slice a6 (sb.length+1) c6) w6∧Gv (Bq A1 ls) w6 (.slice a6 (sb.length+1) c6) (sb ++ [ov.1])∧Fr (fun k=>(Value.slice at4 sb.length ct4).ownBlock≠some k) w5 w6):=fun w5 ao cap h1 h2=>by
        have hg5:Gv (Bq A1 ls) w5 (.slice at4 sb.length ct4) sb:=HGs.out.since ⟨h1.size,fun k hk hl=>h1.block k (fun e=>HF4.out.s.np (e ▸ hk.1)) hl⟩;obtain⟨wa,a6,c6,w6,e1,e2,e3,e4,-⟩:=C6 hg5 (h2.base (fun k hk _=>⟨HF4.out.s.bq hk,fun e=>by have:=(HGs.out.lt e).2;have hk':w4.heap.size<=k:=hk;omega⟩)) (by omega) (fun k hk=>HF4.out.s.bq (Nat.le_trans h1.size hk));exact⟨wa,a6,c6,w6,e1,e2,e3,e4⟩
       clear HVc Hvs9 HF0 HFr0 HB4 HO4 HF4 HGs HFr4 HG HD HV HC Hvs4 Hsvs Hvn Hio Hi hvI;go_wp2_with (at_builtin;first | (refine Lib.wpList_append_run _ rfl _ _ 22 22 rfl _ _ rfl rfl _ _ hr3 ?_;clear hr3) | (refine Lib.wpList_append_run _ rfl _ _ 22 22 rfl _ _ rfl rfl _ _ hr4 ?_;clear hr4));refine hMk.mono ?_;rintro r w5 ⟨⟨ao,cap,rfl,hx5⟩,hm5,hf5⟩;obtain⟨wa6,a6,c6,w6,hWa6,hr6,hG6,hf6⟩:=Hpush.out w5 ao cap hf5 hx5;have Hf:=Hfin.out w5 w6 a6 c6 hm5 hf5 hG6 hf6;replace Hf:Hid _:=Hf;clear Hfin Hpush hMk hm5 hf5 d0' d1' hx5 hG6 hf6;go_wp2_with (at_builtin;refine Lib.wpList_append_run _ rfl _ _ 22 22 rfl _ _ rfl rfl _ _ hr6 ?_;clear hr6);go_roundg gg
       case measure=>omega
       case rel=>exact⟨gg,rfl,by omega,Hf.out⟩
    ·have htb:(tr == 0)=false:=by simpa using htr
     obtain⟨w8,hW8,hx8,hf8,hs8⟩:=Qh hF.r (iv 0) (iv 0) (.string ⟨#[]⟩) sZ;obtain⟨m0,m1,m2,m3,-⟩:=Aa hx8;have hl8:w.heap.size<w8.heap.size:=by omega
     have hfin:Jh base p A m (.slice ac m.consts.length cc) (sL gf of m.funcs.length cf) ss o w (.returned (.agg #[iv 0,iv 0,.string ⟨#[]⟩,sZ])) w8:=by
      obtain⟨g1,g2,g3⟩:=hF.done (A:=A) (w:=w) (hA1A) hO.np hO.ns hO.hi hFr (Nat.le_refl _) hO.mc.lt (x:=V.zero) (xs:=sZ) Cv hf8;have hz:=Rm (o:=o) (by rw[ho1];exact htr);refine⟨⟨none,0,by rw[hz];rfl,by rw[hz];exact g1⟩,?_,g3⟩;rw[ho1,ho2,ho3];exact g2
     clear hF hsk hFr ih hO;go_wp2_with fail;exact bodyPost_ret (v:=.agg #[iv 0,iv 0,.string ⟨#[]⟩,sZ]) (by simp[results,Tryz.results34,go_sem,hl8,m0,m1,m2,m3]) rfl hfin
theorem Wx{base p:Nat}{m:Md}{states:Int}(hr:Run m states)(hcon:Av m.consts)(G:Nat):Ww base p m states G:=Nat.strongRecOn G (fun G ih=>Uz hr hcon ih)
end
end Go.Proofs.YtnijcolomoobnaaGreatDoor
