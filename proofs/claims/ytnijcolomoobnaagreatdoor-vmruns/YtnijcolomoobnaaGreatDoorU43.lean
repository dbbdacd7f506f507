/- Texts of ours, joined. -/
import Derived.Test.YtnijcolomoobnaaGreatDoorU39
set_option linter.unusedVariables false
set_option linter.unusedSimpArgs false
set_option maxRecDepth 100000
set_option maxHeartbeats 16000000
namespace Go.Proofs.YtnijcolomoobnaaGreatDoor
section
open Go.RowKit
attribute [local go_sem ↓] Go.wp_at_zero Go.wp_at_succ
theorem LO.keep{base lo p:Nat}{A:Nat->Prop}{m:Md}{cs fs ds ss:Value}{sts:List V}{fl:Int}{w w':World}(h:LO base lo p A m cs fs ds ss sts fl w)(hb:Below w.heap.size w w'):LO base lo p A m cs fs ds ss sts fl w':=
 ⟨h.mc.keep (hb.block _ h.mc.lt),h.md.below hb,h.st.below hb,h.tb.mono (hb.mono (by have:=h.bp;have:=h.pl;have:=h.ls;omega)),h.dg.stay (fun k _ _ _ h4=>hb.block k h4),h.bp,h.pl,Nat.le_trans h.ls hb.size,h.bs,h.np,h.ns,fun k hk=>h.hi k (Nat.le_trans hb.size hk)⟩
theorem Dg.mono{lo lo' p:Nat}{ss ds:Value}{w:World}(h:Dg lo p ss ds w)(hl:lo<=lo'):Dg lo' p ss ds w:=by
 obtain⟨gd,g13,g16,g18,g19,g21,e,h0,h1,h2,h3,h4,h5,hk⟩:=h;exact⟨gd,g13,g16,g18,g19,g21,e,h0,h1,h2,h3,h4,h5,fun k hh=>⟨Nat.lt_of_lt_of_le (hk k hh).1 hl,(hk k hh).2⟩⟩
def Wa(e:En)(states:Int)(n:Nat)(f:Fu)(H:Nat->Option Int)(o:VOut)(g:Nat)(w:World):Prop:=∃(P:Nat->Prop) (ks:Value) (loc stk sts:List V) (fl:Int) (q:Nat),LS e P ks loc stk sts fl q false V.zero sZ w∧Vst e.m states n f H q loc stk sts fl∧vmRun it15 e.m g n q loc stk sts fl=some o∧fl<=4096
def T0(e:En)(o:VOut)(w:World):Prop:=∃(P:Nat->Prop) (ks:Value) (loc stk:List V) (q:Int) (ax:Option Addr) (cx:Nat),LS e P ks loc stk o.sts o.fuel q true o.val (.slice ax o.val.l.length cx) w∧IsW P w o.val (.slice ax o.val.l.length cx)∧o.trap=0
theorem G1{B:Nat->Prop}{w:World}:∀n:Nat,An B w (List.replicate n (nV 0)) (rowN n)
 | 0=>by simp[rowN,An]
 | n+1=>by
  have e1:rowN (n+1)=rowN 1 ++ rowN n:=by rw[<-Iz,Nat.add_comm]
  have e2:List.replicate (n+1) (nV 0)=[nV 0] ++ List.replicate n (nV 0):=rfl;rw[e1,e2];exact An.append (An.one (At.2 ⟨sZ,rfl,Ix rfl (by unfold maxLen;simp[V.t]) (by unfold InR;show (-9223372036854775808:Int)<=1∧(1:Int)<=_;omega) (by unfold InR;show (-9223372036854775808:Int)<=0∧(0:Int)<=_;omega)⟩)) (G1 n)
theorem Od{B:Nat->Prop}{w:World}{g n:Nat}(h:w.heap[g]?=some (.cells (rowN n).toArray 31 (0,0))):C2 B w (List.replicate n (nV 0)) (some ⟨g,0,none⟩) n:=
 ⟨rowN n,by rw[Bs];simp,G1 n,fun h=>(by cases h),fun b hb j u hu=>by
  obtain rfl:=Option.some.inj hb;have e1:(⟨g,0,none⟩:Addr).add j=⟨g,j,none⟩:=by simp[Addr.add];omega
  rw[e1,cell_block h];simpa using hu⟩
theorem LO.begin{base lo p:Nat}{A:Nat->Prop}{m:Md}{cs fs ds ss:Value}{sts loc:List V}{fl:Int}{w w1 w4 w5:World}{al:Option Addr}{cl:Nat}{row:List Value}(h:LO base lo p A m cs fs ds ss sts fl w)(h1:w.heap.size<w1.heap.size)(h4:w1.heap.size<=w4.heap.size)(hB:Below w.heap.size w w5)(h5:w4.heap.size<=w5.heap.size)(ho:w5.ownsRow w4.heap.size 31 4 (.slice al loc.length cl) loc.length row)(ha:An (Lob (fun k=>A k∧k≠w.heap.size) w4.heap.size) w5 loc row) :
  LS { base:=base,lo:=w1.heap.size,p:=p,b:=w5.heap.size,A:=fun k=>A k∧k≠w.heap.size,m:=m,cs:=cs,fs:=fs,ds:=ds,ss:=ss,ls:=.slice al loc.length cl } (fun k=>(A k∧k≠w.heap.size)∧k≠w5.heap.size∧(Value.slice al loc.length cl).ownBlock≠some k) sZ loc [] sts fl 0 false V.zero sZ (w5.alloc (.cells #[pt p 0,.slice al loc.length cl,sZ,iv 0,.bool false,iv 0,iv 0,.string ⟨#[]⟩,sZ] 75)):=by
 have hb6:Below w5.heap.size w5 (w5.alloc (.cells #[pt p 0,.slice al loc.length cl,sZ,iv 0,.bool false,iv 0,iv 0,.string ⟨#[]⟩,sZ] 75)):=(Below.refl _ _).alloc (Nat.le_refl _) _;have hs6:(w5.alloc (.cells #[pt p 0,.slice al loc.length cl,sZ,iv 0,.bool false,iv 0,iv 0,.string ⟨#[]⟩,sZ] 75)).heap.size=w5.heap.size+1:=by simp
 have hx6:(w5.alloc (.cells #[pt p 0,.slice al loc.length cl,sZ,iv 0,.bool false,iv 0,iv 0,.string ⟨#[]⟩,sZ] 75)).heap[w5.heap.size]?=some (.cells #[pt p 0,.slice al loc.length cl,sZ,iv 0,.bool false,iv 0,iv 0,.string ⟨#[]⟩,sZ] 75 (0,0)):=Ai _ _;generalize w5.alloc (.cells #[pt p 0,.slice al loc.length cl,sZ,iv 0,.bool false,iv 0,iv 0,.string ⟨#[]⟩,sZ] 75)=w6 at *;have hB6:Below w.heap.size w w6:=hB.trans (hb6.mono hB.size);have hown:∀k,(Value.slice al loc.length cl).ownBlock=some k->w4.heap.size<=k∧k<w5.heap.size:=fun k hk=>ho.lt k hk
 have h6:=h.keep hB6;have hpl:=h.pl;have hls:=h.ls;have hP:∀k,A k->k<w.heap.size->(A k∧k≠w.heap.size)∧k≠w5.heap.size∧(Value.slice al loc.length cl).ownBlock≠some k:=fun k hk hl=>⟨⟨hk,by omega⟩,by omega,fun e1=>by have:=(hown k e1).1;omega⟩
 refine⟨h6.mc,hx6,(h.md.base hP).below hB6,?_,?_,Gv.nil _ _,h6.tb,h6.dg.mono (by show lo<=w1.heap.size;omega),h.bp,by show p<w1.heap.size;omega,fun k e1=>⟨(h.bs k e1).1,by show k<w1.heap.size;have:=(h.bs k e1).2.1;omega,(h.bs k e1).2.2⟩,by show w1.heap.size<=w5.heap.size;omega,fun k e1=>⟨by show w1.heap.size<=k;have:=(hown k e1).1;omega,by show k≠w5.heap.size;have:=(hown k e1).2;omega⟩,fun k e1=>(by cases e1),fun hk=>h.np hk.1.1,fun hk=>hk.2.1 rfl,fun k e1 hk=>h.ns k e1 hk.1.1,fun k e1 hk=>hk.2.2 e1,fun k e1=>(by cases e1),fun k hk=>hk.1,fun k hk=>⟨⟨h.hi k (by omega),by omega⟩,by omega,fun e1=>by have:=(hown k e1).2;omega⟩⟩
 ·exact (h.st.base (P':=fun k=>((A k∧k≠w.heap.size)∧k≠w5.heap.size∧(Value.slice al loc.length cl).ownBlock≠some k)∨ss.ownBlock=some k) (fun k hk hl=>by
   rcases hk with hk | hk
   ·exact Or.inl (hP k hk hl)
   ·exact Or.inr hk)).below hB6
 ·have hg:Gv (fun k=>((A k∧k≠w.heap.size)∧k≠w5.heap.size∧(Value.slice al loc.length cl).ownBlock≠some k)∨(Value.slice al loc.length cl).ownBlock=some k) w5 (.slice al loc.length cl) loc:=by
   refine⟨row,(Mb ho).1,fun k hk=>Or.inr hk,ha.base (fun k hk hl=>?_)⟩;have hk1:A k∧k≠w.heap.size:=hk.1;have hk2:k<w4.heap.size:=hk.2;exact⟨Or.inl ⟨hk1,by omega,fun e1=>by have:=(hown k e1).1;omega⟩,fun e1=>by have:=(hown k e1).1;omega⟩
  exact hg.below hb6
theorem Wb{e:En}{base lo:Nat}{A:Nat->Prop}{sts loc' stk:List V}{fl:Int}{w wr wN:World}{o:VOut}{P:Nat->Prop}{ks:Value}{q:Int}{ax:Option Addr}{cx:Nat}{y0 y1 y2 y3:Value}(hO:LO base lo e.p A e.m e.cs e.fs e.ds e.ss sts fl w)(eA:∀k,e.A k->A k∧k≠w.heap.size)(eb:e.base=base)(hlo:w.heap.size<=e.lo)(hFR:Fr (fun k=>k≠e.p∧e.ss.ownBlock≠some k) w wr)(hL:LS e P ks loc' stk o.sts o.fuel q true o.val (.slice ax o.val.l.length cx) wr)(hx:IsW P wr o.val (.slice ax o.val.l.length cx))(ht:o.trap=0)(hfN:Fr (fun k=>k≠w.heap.size) wr wN)(hR:wr.heap[w.heap.size]?=some (.cells #[y0,y1,y2,y3] 31 (0,0))) :
  I0 base lo e.p A e.m e.cs e.fs e.ds e.ss o w (.returned (.agg #[iv o.val.k,iv o.val.n,.string ⟨o.val.t.toArray⟩,.slice ax o.val.l.length cx])) wN:=by
 have hPR:∀k,P k->k≠w.heap.size:=fun k hk=>(eA k (hL.pa k hk)).2
 have hPA:∀k,P k->A k:=fun k hk=>(eA k (hL.pa k hk)).1
 have hRl:=(Array.getElem?_eq_some_iff.1 hR).1;have hpw:=hO.mc.lt;have hss:∀k,e.ss.ownBlock=some k->k<w.heap.size:=fun k e1=>by have:=(hO.bs k e1).2.1;have:=hO.ls;omega
 have hFN:Fr (fun k=>k≠e.p∧e.ss.ownBlock≠some k) w wN:=⟨hfN.os.trans hFR.os,hfN.tape.trans hFR.tape,hfN.output.trans hFR.output,Nat.le_trans hFR.size hfN.size,fun k hk hl=>(hfN.block k (by show k≠_;omega) (Nat.lt_of_lt_of_le hl hFR.size)).trans (hFR.block k hk hl)⟩;refine⟨fun _=>⟨ax,cx,rfl,(hx.since ⟨hfN.size,fun k hk hl=>hfN.block k (hPR k hk) hl⟩).base (fun k hk _=>hPA k hk),?_⟩,fun h=>absurd ht h,hFN⟩;refine⟨hL.mc.keep (hfN.block _ (by show _≠_;omega) hL.mc.lt),(hL.md.since ⟨hfN.size,fun k hk hl=>hfN.block k (hPR k hk) hl⟩).base (fun k hk _=>hPA k hk),?_,?_,hO.dg.stay (fun k h1 h2 h3 h4=>hFN.block k ⟨h2,h3⟩ h4),hO.bp,hO.pl,Nat.le_trans hO.ls hFN.size,hO.bs,hO.np,hO.ns,fun k hk=>hO.hi k (Nat.le_trans hFN.size hk)⟩
 ·exact (hL.st.since ⟨hfN.size,fun k hk hl=>hfN.block k (by
   rcases hk with hk | hk
   ·exact hPR k hk
   ·show k≠_;have:=hss k hk;omega) hl⟩).base (fun k hk _=>by
   rcases hk with hk | hk
   ·exact Or.inl (hPA k hk)
   ·exact Or.inr hk)
 ·have:=hL.tb.fr hfN (by have:=hL.bp;have:=hL.mc.lt;omega) (fun j hj=>by show j≠_;have:=hL.bp;omega);rw[eb] at this;exact this
theorem Oe{e:En}{base lo:Nat}{A:Nat->Prop}{states:Int}{n g:Nat}{f:Fu}{H:Nat->Option Int}{o:VOut}{sts:List V}{fl:Int}{w w6 wq w7:World}{R:Rs}{r:Ending}(hO:LO base lo e.p A e.m e.cs e.fs e.ds e.ss sts fl w)(hU:∀wr,Fx e w6 wr->Fr (fun k=>k≠e.p∧e.ss.ownBlock≠some k) w wr)(hF:Fx e w6 wq)(hs:K4 e.m states n f H g o R)(hS:StP e wq R r w7) :
  (r=.returned (.tuple #[])∧((Hid (Wa e states n f H o g w7)∨Hid (T0 e o w7))∧Hid (Fx e w6 w7)))∨(∃c,r=.panicked c∧I0 base lo e.p A e.m e.cs e.fs e.ds e.ss o w r w7):=by
 cases R with
 | go q loc stk sts' fl'=>
  obtain⟨h1,⟨P,ks,h2⟩,h3⟩:=hS;exact Or.inl ⟨h1,Or.inl ⟨P,ks,loc,stk,sts',fl',q,h2,hs.1,hs.2.1,hs.2.2⟩,hF.trans h3⟩
 | ret v sts' fl'=>
  obtain⟨h1,⟨P,ks,loc,stk,q,ax,cx,h2,h4⟩,h3⟩:=hS;obtain⟨rfl,rfl,rfl,ht⟩:=hs;exact Or.inl ⟨h1,Or.inr ⟨P,ks,loc,stk,q,ax,cx,h2,h4,ht⟩,hF.trans h3⟩
 | trap t fl'=>
  obtain⟨h1,h2,h3⟩:=hS;obtain⟨rfl,rfl,ht⟩:=hs;exact Or.inr ⟨_,h1,fun h=>absurd h ht,fun _=>⟨h1,h2⟩,hU _ (hF.trans h3)⟩
theorem Wc{m:Md}{states:Int}(hr:Run m states)(hcon:Av m.consts){G:Nat}(ih:∀g,g<G->Qq m states g):Qq m states G:=by
 intro base lo p A cs fs ds ss n f H args sts aa ca fl o w hO hargs hpar hV hfl hrun;obtain⟨af,cf,hfs,-,-⟩:=hO.md.fun_.slice;have hfun:=hO.md.fun_;rw[hfs] at hfun;have hn:=(List.getElem?_eq_some_iff.1 hV.hf).1;have hnI:(n:Int)<(m.funcs.length:Int):=by omega
 have hn0:(0:Int)<=(n:Int):=by omega
 obtain⟨w0,hW0,hb0,hl0,hx0⟩:=Co w;have hO0:=hO.keep hb0;obtain⟨gf,of,ak,ck,rfl,-,hgfw,f0,f1,f2,f3,f4,hfn⟩:=hfun.get hV.hf;have HFn:Hid (IsFn A w f (.slice ak f.code.length ck)):=hfn;have hgf:gf<w0.heap.size:=Nat.lt_of_lt_of_le hgfw hb0.size;obtain⟨fx0,-⟩:=Ag hb0;replace f0:=(fx0 _ _ hgfw).trans f0;replace f1:=(fx0 _ _ hgfw).trans f1;replace f2:=(fx0 _ _ hgfw).trans f2;replace f3:=(fx0 _ _ hgfw).trans f3;replace f4:=(fx0 _ _ hgfw).trans f4;obtain⟨w1,hW1,hb1,hl1,hx1⟩:=U5 w0 (iv f.params) (iv f.locals) (iv f.zero) (iv f.stack) (.slice ak f.code.length ck) 52;obtain⟨c0,c1,c2,c3,c4,y0,y1,y2,y3,y4,hlp⟩:=Ak hO0.mc;rw[hfs] at c1;have hB1:Below w.heap.size w w1:=hb0.trans (hb1.mono hb0.size);have hnum:=(hr.fun_ n f hV.hf).num;unfold A8 at hnum;obtain⟨T,HT⟩:∃T:Nat,Hid (f.locals.toNat - args.length=T):=⟨_,rfl⟩;have hT2:f.locals - f.params=(T:Int):=by have:=HT.out;omega
 have hTs:T<=256:=by have:=HT.out;omega
 have hwT:IntKind.i64.wrap (f.locals - f.params)=(T:Int):=by rw[hT2,IntKind.wrap_i64];omega
 have hwT2:IntKind.i64.wrap (T:Int)=(T:Int):=by rw[IntKind.wrap_i64];omega
 obtain⟨q0,q1,q2,q3,q4,-,-,-,-,-,-⟩:=Ak hx1;have hF1:w0.heap.size<w1.heap.size:=by omega
 have hR1:w.heap.size<w1.heap.size:=by omega
 have hSk:∀wx,Below w1.heap.size w1 wx->wx.cell? ⟨w0.heap.size,0,none⟩=some (iv f.params)∧wx.cell? ⟨w0.heap.size,1,none⟩=some (iv f.locals):=fun wx hb=>by
  obtain⟨fx,-⟩:=Ag hb;exact⟨(fx _ _ hF1).trans q0,(fx _ _ hF1).trans q1⟩
 have hargs1:C2 (fun k=>A k∧k≠w.heap.size) w1 args aa ca:=(hargs.base (fun k hk hl=>⟨hk,by omega⟩)).below hB1;have hR0:w.heap.size<w0.heap.size:=by omega
 have Hx0:Hid _:=hx0;have Hx1:Hid _:=hx1;have hloc:args ++ List.replicate T (nV 0)=loc0 f args:=by unfold loc0;rw[HT.out]
 have Hloc:Hid _:=hloc;have Hal:Hid (args.length<=8):=by show _<=_;omega
 have HO:Hid _:=hO;have HV:Hid _:=hV;have Hrun:Hid _:=hrun;have hbuild:∀(p:Nat) (al:Option Addr) (n c:Nat) (wx:World),(Instr.build 75 #[(0,pt p 0),(1,.slice al n c)]).run Tryz.prog wx=.ok (.agg #[pt p 0,.slice al n c,sZ,iv 0,.bool false,iv 0,iv 0,.string ⟨#[]⟩,sZ]) wx:=fun _ _ _ _ _=>by kernel_rfl
 clear fx0 hgfw hfun hfs hO0 hargs hpar hnum hT2 hx0 hx1 hloc hfn hO hV hrun q0 q1 q2 q3 q4 hl0 hl1;go_enter Tryz.func31,Tryz.ntmps31;go_wp2_with fail;clear hW0 hW1 f0 f1 f2 f3 f4 c0 c1 c2 c3 c4 y0 y1 y2 y3 y4;refine wpE_begin (S:=fun w'=>w'.cell? ⟨w0.heap.size,0,none⟩=some (iv f.params)∧w'.cell? ⟨w0.heap.size,1,none⟩=some (iv f.locals)) (N:=fun j=>decide (j<9)) (by kernel_rfl) ?_;have hS0:w1.drew.cell? ⟨w0.heap.size,0,none⟩=some (iv f.params)∧w1.drew.cell? ⟨w0.heap.size,1,none⟩=some (iv f.locals):=hSk _ (Af w1 1);refine Ab (some 21) [3,6,7,8] 2 (pt w0.heap.size 1) rfl rfl (by kernel_rfl) (fun _ _ _ h=>h) rfl (by intro w hS;(try dsimp only at hS);go_split_ands;go_simp) hS0 ?_
 try simp only[aP]
 refine Ab (some 22) [6,7,8] 3 (iv f.locals) rfl rfl (by kernel_rfl) (fun _ _ _ h=>h) rfl (by intro w hS;(try dsimp only at hS);go_split_ands;go_simp) hS0 ?_
 try simp only[aP]
 refine Ab (some 23) [5,6,7,8] 4 (pt w0.heap.size 0) rfl rfl (by kernel_rfl) (fun _ _ _ h=>h) rfl (by intro w hS;(try dsimp only at hS);go_split_ands;go_simp) hS0 ?_
 try simp only[aP]
 refine Ab (some 24) [6,7,8] 5 (iv f.params) rfl rfl (by kernel_rfl) (fun _ _ _ h=>h) rfl (by intro w hS;(try dsimp only at hS);go_split_ands;go_simp) hS0 ?_
 try simp only[aP]
 refine Ab (some 25) [7,8] 6 (iv (T:Int)) rfl rfl (by kernel_rfl) (fun _ _ _ h=>h) rfl (by intro w hS;(try dsimp only at hS);go_split_ands;go_simp) hS0 ?_
 try simp only[aP]
 refine Ac (i:=0) (by kernel_rfl) rfl rfl (fun K hK=>?_);go_simp;refine (Ki 0 w1.drew).mono ?_;rintro r w2 ⟨rfl,hb2⟩;replace hb2:Below w1.heap.size w1 w2:=Ad hb2;refine hK _ _ (fun _=>hSk w2 hb2) ?_;clear hK K
 try simp only[aP]
 obtain⟨wa,hWa,hba,hla,hxa⟩:∃wa,w2.alloc (.cells #[iv 1,iv 0,.string ⟨#[]⟩,sZ] 31)=wa∧Below w2.heap.size w2 wa∧w2.heap.size<wa.heap.size∧wa.heap[w2.heap.size]?=some (.cells #[iv 1,iv 0,.string ⟨#[]⟩,sZ] 31 (0,0)):=⟨_,rfl,(Below.refl _ _).alloc (Nat.le_refl _) _,by simp,Ai _ _⟩;have hb1a:Below w1.heap.size w1 wa:=hb2.trans (hba.mono hb2.size);have hRep:=N5 (n:=T) (by omega) hxa;refine Ac (i:=1) (by kernel_rfl) rfl rfl (fun K hK=>?_);go_simp;refine hK _ _ (fun _=>hSk wa hb1a) ?_;clear hK K
 try simp only[aP]
 refine Ac (i:=7) (by kernel_rfl) rfl rfl (fun K hK=>?_);go_simp;refine hRep.mono ?_;rintro r w3 ⟨⟨g3,rfl,hg3,hx3⟩,hb3⟩;have hb13:Below w1.heap.size w1 w3:=hb1a.trans (hb3.mono hb1a.size);clear hRep hxa hWa hba hb2;refine hK _ _ (fun _=>hSk w3 hb13) ?_;clear hK K
 try simp only[aP]
 refine Ah (some 8) (fun j=>[].contains j) (i:=8) (v:=sL g3 0 T T) rfl rfl (by kernel_rfl) (by kernel_rfl) (by kernel_rfl) (by kernel_rfl) (fun j hj=>by simp at hj) (fun _ _ _ h=>h) rfl (fun w' hS=>by obtain⟨g0,g1⟩:=hS;go_simp) (hSk w3 hb13) ?_
 try simp only[aP]
 refine Am (by kernel_rfl) ?_;simp only[Exit.then];refine ‹∀(a:Act) (w:World),_->_› _ _ ?_;obtain⟨w4,hW4,hb4,hl4,hx4⟩:∃w4,w3.alloc (.cells #[.slice aa args.length ca,sL g3 0 T T] 22)=w4∧Below w3.heap.size w3 w4∧w3.heap.size<w4.heap.size∧w4.heap[w3.heap.size]?=some (.cells #[.slice aa args.length ca,sL g3 0 T T] 22 (0,0)):=⟨_,rfl,(Below.refl _ _).alloc (Nat.le_refl _) _,by simp,Ai _ _⟩;have hb14:Below w1.heap.size w1 w4:=hb13.trans (hb4.mono hb13.size);have hCat:=Mm (B:=fun k=>A k∧k≠w.heap.size) (L:=fun q=>if q=0 then args else List.replicate T (nV 0)) (a:=fun q=>if q=0 then aa else some ⟨g3,0,none⟩) (c:=fun q=>if q=0 then ca else T) (g0:=w3.heap.size) (w:=w4) (fun q hq=>by
  have hq2:q=0∨q=1:=by omega
  rcases hq2 with rfl | rfl
  ·rw[cell_block hx4];rfl
  ·rw[cell_block hx4];simp) hl4 (fun q hq=>by
  have hq2:q=0∨q=1:=by omega
  rcases hq2 with rfl | rfl
  ·exact hargs1.below hb14
  ·exact Od ((hb4.block _ (Array.getElem?_eq_some_iff.1 hx3).1).trans hx3)) (by have:=Hal.out;simp[A5];omega)
 have ecat:A5 (fun q=>if q=0 then args else List.replicate T (nV 0)) 2=loc0 f args:=by
  rw[<-Hloc.out];simp[A5]
 rw[ecat] at hCat;clear ecat hargs1 hx3 hx4;generalize loc0 f args=loc at *;go_wp2_with fail;refine hCat.mono ?_;rintro r w5 ⟨⟨al,cl,rfl,row,hro,hra⟩,hb5⟩;clear hCat;have hs14:=hb14.size;have hs5:=hb5.size;have hB5:Below w.heap.size w w5:=hB1.trans ((hb14.trans (hb5.mono hb14.size)).mono hB1.size);have hLS:=HO.out.begin hR1 hs14 hB5 hs5 hro hra;obtain⟨w6,hW6⟩:∃w6,w5.alloc (.cells #[pt p 0,.slice al loc.length cl,sZ,iv 0,.bool false,iv 0,iv 0,.string ⟨#[]⟩,sZ] 75)=w6:=⟨_,rfl⟩;rw[hW6] at hLS;have hb6:Below w5.heap.size w5 w6:=by rw[<-hW6];exact (Below.refl _ _).alloc (Nat.le_refl _) _
 have hb16:Below w1.heap.size w1 w6:=(hb14.trans (hb5.mono hb14.size)).trans (hb6.mono (Nat.le_trans hs14 hs5));have hB6:Below w.heap.size w w6:=hB1.trans (hb16.mono hB1.size);have HB6:Hid _:=hB6;have Hxf:Hid (w6.heap[w0.heap.size]?=some (.cells #[iv f.params,iv f.locals,iv f.zero,iv f.stack,.slice ak f.code.length ck] 52 (0,0))):=(hb16.block _ hF1).trans Hx1.out;have Hxr:Hid (w6.heap[w.heap.size]?=some (.cells #[iv 0,iv 0,.string ⟨#[]⟩,sZ] 31 (0,0))):=(hb16.block _ hR1).trans ((hb1.block _ hR0).trans Hx0.out);obtain⟨e,ep,eb,elo,eA,em,ecs,efs,eds,ess,ebs,P6,hLS6⟩:∃e:En,e.p=p∧e.b=w5.heap.size∧e.lo=w1.heap.size∧(∀k,e.A k->A k∧k≠w.heap.size)∧e.m=m∧e.cs=cs∧e.fs=fs∧e.ds=ds∧e.ss=ss∧e.base=base∧∃P,LS e P sZ loc [] sts fl ((0:Nat):Int) false V.zero sZ w6:=⟨_,rfl,rfl,rfl,fun _ h=>h,rfl,rfl,rfl,rfl,rfl,rfl,_,hLS⟩;have hRun6:Hid (Wa e states n f H o G w6):=⟨P6,_,loc,[],sts,fl,0,hLS6,by rw[em];exact HV.out,by rw[em];exact Hrun.out,hfl⟩;have hFlo:w0.heap.size<e.lo:=by rw[elo];exact hF1
 have hRlo:w.heap.size<e.lo:=by rw[elo];exact hR1
 have hpw:p<w.heap.size:=HO.out.mc.lt;have Hss:Hid (∀k,ss.ownBlock=some k->k<w.heap.size):=fun k e1=>by have:=(HO.out.bs k e1).2.1;have:=HO.out.ls;omega
 clear hLS hLS6 hro hra hb5 hs14 hs5 hB5 hb14 hb4 hl4 hb13 hb3 hb1a hla hg3 hb16 hB6 hb6 Hloc Hal HV Hrun hSk hB1 hb1 hb0;go_wp2_with fail;clear hW6 hW4 hbuild;generalize w5.heap.size=b5 at *;subst eb;subst ep;subst ess;subst eds;subst ecs;subst efs;subst em;have HU:Hid (∀wr,Fx e w6 wr->Fr (fun k=>k≠e.p∧e.ss.ownBlock≠some k) w wr):=fun wr hfx=>⟨hfx.os.trans HB6.out.os,hfx.tape.trans HB6.out.tape,hfx.output.trans HB6.out.output,Nat.le_trans HB6.out.size hfx.size,fun k hk hl=>(hfx.block k ⟨by omega,hk⟩ (Nat.lt_of_lt_of_le hl HB6.out.size)).trans (HB6.out.block k hl)⟩
 go_loopg [10] G (fun kk s10 wr=>∃gm:Nat,kk=gm∧gm<=G∧(Hid (Wa e states n f H o gm wr)∨Hid (T0 e o wr))∧Hid (Fx e w6 wr))
 case atStart=>exact⟨G,rfl,Nat.le_refl _,Or.inl hRun6,Fr.refl _ _⟩
 case round=>
  clear hRun6;obtain⟨gm,hgm,hgG,hst,HX⟩:=hrel;have hFR:=HU.out wr HX.out;have hxfr:wr.heap[w0.heap.size]?=_:=(HX.out.block _ ⟨hFlo,by omega,fun e1=>by have:=Hss.out _ e1;omega⟩ (Array.getElem?_eq_some_iff.1 Hxf.out).1).trans Hxf.out;have hxrr:wr.heap[w.heap.size]?=_:=(HX.out.block _ ⟨hRlo,by omega,fun e1=>by have:=Hss.out _ e1;omega⟩ (Array.getElem?_eq_some_iff.1 Hxr.out).1).trans Hxr.out;rcases hst with hst | hst
  ·have hd:=hst.out;obtain⟨P,ks,loc',stk,sts',fl',q,hL,hVq,hrq,hflq⟩:=hd;obtain⟨g',rfl⟩:∃g',gm=g'+1:=by
    cases gm with
    | zero=>rw[vmRun] at hrq;cases hrq
    | succ g'=>exact⟨g',rfl⟩
   obtain⟨i,hci,hin,-⟩:=hVq.ins (it:=it15) hr;obtain⟨lo1,lo2,-,-⟩:=Au.1 hin;have hAne:∀k,A k->k≠e.p∧e.ss.ownBlock≠some k:=fun k hk=>⟨fun e1=>HO.out.np (e1 ▸ hk),fun e1=>HO.out.ns k e1 hk⟩
   have hfnr:IsFn A wr f (.slice ak f.code.length ck):=HFn.out.since ⟨hFR.size,fun k hk hl=>hFR.block k (hAne k hk) hl⟩;obtain⟨gc,oc,rfl,-,hgc,i0,i1,-⟩:=hfnr.code.get hci;have hqlt:=(List.getElem?_eq_some_iff.1 hci).1;have hqI:(q:Int)<(f.code.length:Int):=by omega
   have hq0:(0:Int)<=(q:Int):=by omega
   obtain⟨op,a⟩:=i;simp only at i0 i1 lo1 lo2;obtain⟨opn,rfl⟩:∃k:Nat,op=(k:Int):=⟨op.toNat,by omega⟩;obtain⟨b0,b1,b2,b3,b4⟩:=hL.fr.cells;obtain⟨-,-,-,-,e4,-⟩:=Ak hxfr;have hFl:w0.heap.size<wr.heap.size:=(Array.getElem?_eq_some_iff.1 hxfr).1;have hbl:=hL.fr.lt;have hSk5:∀wx,Below wr.heap.size wr wx->wx.cell? ⟨w0.heap.size,4,none⟩=some (sL gc oc f.code.length ck)∧wx.cell? ⟨e.b,3,none⟩=some (iv (q:Int))∧wx.cell? ⟨gc,oc+q*2,none⟩=some (iv (opn:Int))∧wx.cell? ⟨gc,oc+q*2+1,none⟩=some (iv a):=fun wx hb=>by
    obtain⟨fx,-⟩:=Ag hb;exact⟨(fx _ _ hFl).trans e4,(fx _ _ hbl).trans b3,(fx _ _ hgc).trans i0,(fx _ _ hgc).trans i1⟩
   obtain⟨wz,hWz,hbz,hlz,hxz⟩:∃wz,wr.drew.alloc (.cells #[iv 0,iv 0] 48)=wz∧Below wr.heap.size wr wz∧wr.heap.size<wz.heap.size∧wz.heap[wr.heap.size]?=some (.cells #[iv 0,iv 0] 48 (0,0)):=⟨_,rfl,(show Below wr.heap.size wr wr.drew from Af wr 1).alloc (Nat.le_refl _) _,by simp,Ai _ _⟩;obtain⟨wi,hWi,hbi,hxi⟩:∃wi,(wz.setCell ⟨wr.heap.size,0,none⟩ (iv (opn:Int))).setCell ⟨wr.heap.size,1,none⟩ (iv a)=wi∧Below wr.heap.size wr wi∧wi.heap[wr.heap.size]?=some (.cells #[iv (opn:Int),iv a] 48 (0,0)):=⟨_,rfl,(hbz.setCell (p:=⟨wr.heap.size,0,none⟩) (Nat.le_refl _) _).setCell (p:=⟨wr.heap.size,1,none⟩) (Nat.le_refl _) _,by simp[World.setCell,Array.getElem?_modify,hxz]⟩;have hli:=hL.keep hbi;have hFq:Fr (fun k=>k≠e.b) wi (wi.setCell ⟨e.b,3,none⟩ (iv ((q+1:Nat):Int))):=Fr.set (by simp) _ _;have hlq:=hli.frame hFq (hli.fr.setQ ((q+1:Nat):Int));obtain⟨-,-,-,k3,-⟩:=hli.fr.cells;have kf:=hli.fr.open_ 3;have hbli:=hli.fr.lt;have hIb:wr.heap.size≠e.b:=by omega
   have hxq:=(hFq.block _ hIb (Array.getElem?_eq_some_iff.1 hxi).1).trans hxi;have hFxq:Fx e w6 (wi.setCell ⟨e.b,3,none⟩ (iv ((q+1:Nat):Int))):=(HX.out.trans (Fr.of_below hbi)).trans (hli.fxb hFq);have hcz:wz.cell? ⟨wr.heap.size,0,none⟩=some (iv 0)∧wz.cell? ⟨wr.heap.size,1,none⟩=some (iv 0)∧wz.frozen? ⟨wr.heap.size,0,none⟩=false∧wz.frozen? ⟨wr.heap.size,1,none⟩=false:=by
    refine⟨?_,?_,?_,?_⟩
    all_goals first | simp[World.cell?,hxz] | simp[World.frozen?,hxz]
   obtain⟨z0,z1,z2,z3⟩:=hcz;have hclen:(f.code.length:Int)<=16384:=by have hnum:=(hr.fun_ n f hVq.hf).num;unfold A8 at hnum;omega
   obtain⟨gd,Rr,hds,hgd,hstep,-,-,hdo⟩:=Qt hr hcon (ih g' (by omega)) (hlq.keep (Af _ 1)) hVq hflq hrq hci;obtain⟨wq,hWq⟩:∃wq,wi.setCell ⟨e.b,3,none⟩ (iv ((q:Int)+1))=wq:=⟨_,rfl⟩;have hWq':wi.setCell ⟨e.b,3,none⟩ (iv ((q+1:Nat):Int))=wq:=by rw[show ((q+1:Nat):Int)=(q:Int)+1 by omega];exact hWq
   rw[hWq'] at hlq hxq hFxq hdo hgd;clear hWq';obtain⟨-,-,x2,-,-⟩:=Ak hlq.mc;rw[hds] at x2;have xI:wq.cell? ⟨wr.heap.size,0,none⟩=some (iv (opn:Int))∧wq.cell? ⟨wr.heap.size,1,none⟩=some (iv a):=by
    refine⟨?_,?_⟩
    all_goals simp[World.cell?,hxq]
   obtain⟨xI0,xI1⟩:=xI;have hIl:wr.heap.size<wq.heap.size:=(Array.getElem?_eq_some_iff.1 hxq).1;have hpl:=hlq.mc.lt;obtain⟨xb0,-⟩:=hlq.fr.cells;have hblq:=hlq.fr.lt;have HS7:Hid (∀r w7,StP e wq.drew Rr r w7->(r=.returned (.tuple #[])∧((Hid (Wa e states n f H o g' w7)∨Hid (T0 e o w7))∧Hid (Fx e w6 w7)))∨(∃c,r=.panicked c∧I0 base lo e.p A e.m e.cs e.fs e.ds e.ss o w r w7)):=fun r w7 hS=>Oe HO.out HU.out (hFxq.trans (Fr.of_below (Af wq 1))) hstep hS
   unfold W1 at hdo;simp only[Int.toNat_natCast] at hdo;have hopn:opn<=21:=by omega
   have hopI:(opn:Int)<22:=by omega
   have hop0:(0:Int)<=(opn:Int):=by omega
   clear hL hli hlq hxq hFxq hstep hVq hrq hfnr hFR hxfr hxrr hst HX hAne hin hci hxi hxz hbz hbi hFq HO HB6 Hxf Hxr Hss HU HFn ih hr hcon eA e4 b0 b1 b2 i0 i1 b3 hds;go_wp2_with fail;refine wpE_begin (S:=fun w'=>w'.cell? ⟨w0.heap.size,4,none⟩=some (sL gc oc f.code.length ck)∧w'.cell? ⟨e.b,3,none⟩=some (iv (q:Int))∧w'.cell? ⟨gc,oc+q*2,none⟩=some (iv (opn:Int))∧w'.cell? ⟨gc,oc+q*2+1,none⟩=some (iv a)) (N:=fun j=>decide (j<9)) (by kernel_rfl) ?_;have hS0:wr.drew.cell? ⟨w0.heap.size,4,none⟩=some (sL gc oc f.code.length ck)∧wr.drew.cell? ⟨e.b,3,none⟩=some (iv (q:Int))∧wr.drew.cell? ⟨gc,oc+q*2,none⟩=some (iv (opn:Int))∧wr.drew.cell? ⟨gc,oc+q*2+1,none⟩=some (iv a):=hSk5 _ (Af wr 1);refine Ab (some 39) [1,6,7,9] 0 (pt w0.heap.size 4) rfl rfl (by kernel_rfl) (fun _ _ _ h=>h) rfl (by intro w hS;(try dsimp only at hS);go_split_ands;go_simp) hS0 ?_
   try simp only[aP]
   refine Ab (some 40) [6,7,9] 1 (sL gc oc f.code.length ck) rfl rfl (by kernel_rfl) (fun _ _ _ h=>h) rfl (by intro w hS;(try dsimp only at hS);go_split_ands;go_simp) hS0 ?_
   try simp only[aP]
   refine Ab (some 41) [3,4,5,6,7,9] 2 (pt e.b 0) rfl rfl (by kernel_rfl) (fun _ _ _ h=>h) rfl (by intro w hS;(try dsimp only at hS);go_split_ands;go_simp) hS0 ?_
   try simp only[aP]
   refine Ab (some 42) [4,5,6,7,9] 3 (pt e.b 0) rfl rfl (by kernel_rfl) (fun _ _ _ h=>h) rfl (by intro w hS;(try dsimp only at hS);go_split_ands;go_simp) hS0 ?_
   try simp only[aP]
   refine Ab (some 43) [5,6,7,9] 4 (pt e.b 3) rfl rfl (by kernel_rfl) (fun _ _ _ h=>h) rfl (by intro w hS;(try dsimp only at hS);go_split_ands;go_simp) hS0 ?_
   try simp only[aP]
   refine Ab (some 44) [6,7,9] 5 (iv (q:Int)) rfl rfl (by kernel_rfl) (fun _ _ _ h=>h) rfl (by intro w hS;(try dsimp only at hS);go_split_ands;go_simp) hS0 ?_
   try simp only[aP]
   refine Ab (some 45) [7,9] 6 (pt gc (oc+q*2)) rfl rfl (by kernel_rfl) (fun _ _ _ h=>h) rfl (by intro w hS;(try dsimp only at hS);go_split_ands;go_simp) hS0 ?_
   try simp only[aP]
   refine Ab (some 46) [9] 7 (.agg #[iv (opn:Int),iv a]) rfl rfl (by kernel_rfl) (fun _ _ _ h=>h) rfl (by intro w hS;(try dsimp only at hS);go_split_ands;go_simp) hS0 ?_
   try simp only[aP]
   have hbzz:Below wr.heap.size wr wz:=by rw[<-hWz];exact (show Below wr.heap.size wr wr.drew from Af wr 1).alloc (Nat.le_refl _) _
   refine Ac (i:=8) (by kernel_rfl) rfl rfl (fun K hK=>?_);go_simp;refine hK _ _ (fun _=>hSk5 wz hbzz) ?_;clear hK K
   try simp only[aP]
   refine Ac (i:=9) (by kernel_rfl) rfl rfl (fun K hK=>?_);go_simp;refine hK _ _ (fun h=>by cases h) ?_;clear hK K
   try simp only[aP]
   refine Am (by kernel_rfl) ?_;simp only[Exit.inBlock,Exit.then];refine ‹∀(a:Act) (w:World),_->_› _ _ ?_;clear hSk5 hWz hWi z0 z1 z2 z3;go_wp2_with fail;clear hWq k3 kf;rcases hdo with⟨KF,caps,hcl,hen,hcall⟩ | ⟨hcl,hcall⟩
   ·have hinv:=Tz hen caps (pt e.b 0) (iv a) wq.drew;refine wpE_begin (S:=fun w'=>w'.cell? ⟨e.p,2,none⟩=some (sL gd 0 22 22)∧w'.cell? ⟨wr.heap.size,0,none⟩=some (iv (opn:Int))∧w'.cell? ⟨wr.heap.size,1,none⟩=some (iv a)∧w'.cell? ⟨gd,opn,none⟩=some (.func (Fn.func KF) #[] caps)) (N:=fun j=>decide (j<11)) (by kernel_rfl) ?_;have hS0:wq.drew.cell? ⟨e.p,2,none⟩=some (sL gd 0 22 22)∧wq.drew.cell? ⟨wr.heap.size,0,none⟩=some (iv (opn:Int))∧wq.drew.cell? ⟨wr.heap.size,1,none⟩=some (iv a)∧wq.drew.cell? ⟨gd,opn,none⟩=some (.func (Fn.func KF) #[] caps):=⟨x2,xI0,xI1,hcl⟩;refine Ab (some 54) [1,2,3,6,7,11] 0 (pt e.p 0) rfl rfl (by kernel_rfl) (fun _ _ _ h=>h) rfl (by intro w hS;(try dsimp only at hS);go_split_ands;go_simp) hS0 ?_
    try simp only[aP]
    refine Ab (some 55) [2,3,6,7,11] 1 (pt e.p 0) rfl rfl (by kernel_rfl) (fun _ _ _ h=>h) rfl (by intro w hS;(try dsimp only at hS);go_split_ands;go_simp) hS0 ?_
    try simp only[aP]
    refine Ab (some 56) [3,6,7,11] 2 (pt e.p 2) rfl rfl (by kernel_rfl) (fun _ _ _ h=>h) rfl (by intro w hS;(try dsimp only at hS);go_split_ands;go_simp) hS0 ?_
    try simp only[aP]
    refine Ab (some 57) [6,7,11] 3 (sL gd 0 22 22) rfl rfl (by kernel_rfl) (fun _ _ _ h=>h) rfl (by intro w hS;(try dsimp only at hS);go_split_ands;go_simp) hS0 ?_
    try simp only[aP]
    refine Ab (some 58) [5,6,7,11] 4 (pt wr.heap.size 0) rfl rfl (by kernel_rfl) (fun _ _ _ h=>h) rfl (by intro w hS;(try dsimp only at hS);go_split_ands;go_simp) hS0 ?_
    try simp only[aP]
    refine Ab (some 59) [6,7,11] 5 (iv (opn:Int)) rfl rfl (by kernel_rfl) (fun _ _ _ h=>h) rfl (by intro w hS;(try dsimp only at hS);go_split_ands;go_simp) hS0 ?_
    try simp only[aP]
    refine Ab (some 60) [7,11] 6 (pt gd opn) rfl rfl (by kernel_rfl) (fun _ _ _ h=>h) rfl (by intro w hS;(try dsimp only at hS);go_split_ands;go_simp) hS0 ?_
    try simp only[aP]
    refine Ab (some 61) [11] 7 (.func (Fn.func KF) #[] caps) rfl rfl (by kernel_rfl) (fun _ _ _ h=>h) rfl (by intro w hS;(try dsimp only at hS);go_split_ands;go_simp) hS0 ?_
    try simp only[aP]
    refine Ab (some 62) [11] 8 (pt e.b 0) rfl rfl (by kernel_rfl) (fun _ _ _ h=>h) rfl (by intro w hS;(try dsimp only at hS);go_split_ands;go_simp) hS0 ?_
    try simp only[aP]
    refine Ab (some 63) [10,11] 9 (pt wr.heap.size 1) rfl rfl (by kernel_rfl) (fun _ _ _ h=>h) rfl (by intro w hS;(try dsimp only at hS);go_split_ands;go_simp) hS0 ?_
    try simp only[aP]
    refine Ab (some 64) [11] 10 (iv a) rfl rfl (by kernel_rfl) (fun _ _ _ h=>h) rfl (by intro w hS;(try dsimp only at hS);go_split_ands;go_simp) hS0 ?_
    try simp only[aP]
    refine Ac (i:=11) (by kernel_rfl) rfl rfl (fun K hK=>?_);refine Fk (.tmp 61) (.tmp 62) (.tmp 64) 72 3 rfl rfl rfl rfl hinv ?_;refine hcall.mono ?_;intro r w7 hS;rcases HS7.out r w7 hS with⟨rfl,hrel7⟩ | ⟨c,rfl,hfp⟩
    ·show K _ _;refine hK _ _ (fun h=>by cases h) ?_;clear hK K
     try simp only[aP]
     refine Am (by kernel_rfl) ?_;simp only[Exit.inBlock,Exit.then];refine ‹∀(a:Act) (w:World),_->_› _ _ ?_;go_roundg g'
     case measure=>omega
     case rel=>exact⟨g',rfl,by omega,hrel7⟩
    ·exact⟨rfl,hfp⟩
   ·have hinv:=Oc (a:=iv a) (caps:=#[]) (w:=wq.drew) xb0 hblq;refine wpE_begin (S:=fun w'=>w'.cell? ⟨e.p,2,none⟩=some (sL gd 0 22 22)∧w'.cell? ⟨wr.heap.size,0,none⟩=some (iv (opn:Int))∧w'.cell? ⟨wr.heap.size,1,none⟩=some (iv a)∧w'.cell? ⟨gd,opn,none⟩=some (.func (Fn.methodOf 72 "quern/vm.charge") #[] #[])) (N:=fun j=>decide (j<11)) (by kernel_rfl) ?_;have hS0:wq.drew.cell? ⟨e.p,2,none⟩=some (sL gd 0 22 22)∧wq.drew.cell? ⟨wr.heap.size,0,none⟩=some (iv (opn:Int))∧wq.drew.cell? ⟨wr.heap.size,1,none⟩=some (iv a)∧wq.drew.cell? ⟨gd,opn,none⟩=some (.func (Fn.methodOf 72 "quern/vm.charge") #[] #[]):=⟨x2,xI0,xI1,hcl⟩;refine Ab (some 54) [1,2,3,6,7,11] 0 (pt e.p 0) rfl rfl (by kernel_rfl) (fun _ _ _ h=>h) rfl (by intro w hS;(try dsimp only at hS);go_split_ands;go_simp) hS0 ?_
    try simp only[aP]
    refine Ab (some 55) [2,3,6,7,11] 1 (pt e.p 0) rfl rfl (by kernel_rfl) (fun _ _ _ h=>h) rfl (by intro w hS;(try dsimp only at hS);go_split_ands;go_simp) hS0 ?_
    try simp only[aP]
    refine Ab (some 56) [3,6,7,11] 2 (pt e.p 2) rfl rfl (by kernel_rfl) (fun _ _ _ h=>h) rfl (by intro w hS;(try dsimp only at hS);go_split_ands;go_simp) hS0 ?_
    try simp only[aP]
    refine Ab (some 57) [6,7,11] 3 (sL gd 0 22 22) rfl rfl (by kernel_rfl) (fun _ _ _ h=>h) rfl (by intro w hS;(try dsimp only at hS);go_split_ands;go_simp) hS0 ?_
    try simp only[aP]
    refine Ab (some 58) [5,6,7,11] 4 (pt wr.heap.size 0) rfl rfl (by kernel_rfl) (fun _ _ _ h=>h) rfl (by intro w hS;(try dsimp only at hS);go_split_ands;go_simp) hS0 ?_
    try simp only[aP]
    refine Ab (some 59) [6,7,11] 5 (iv (opn:Int)) rfl rfl (by kernel_rfl) (fun _ _ _ h=>h) rfl (by intro w hS;(try dsimp only at hS);go_split_ands;go_simp) hS0 ?_
    try simp only[aP]
    refine Ab (some 60) [7,11] 6 (pt gd opn) rfl rfl (by kernel_rfl) (fun _ _ _ h=>h) rfl (by intro w hS;(try dsimp only at hS);go_split_ands;go_simp) hS0 ?_
    try simp only[aP]
    refine Ab (some 61) [11] 7 (.func (Fn.methodOf 72 "quern/vm.charge") #[] #[]) rfl rfl (by kernel_rfl) (fun _ _ _ h=>h) rfl (by intro w hS;(try dsimp only at hS);go_split_ands;go_simp) hS0 ?_
    try simp only[aP]
    refine Ab (some 62) [11] 8 (pt e.b 0) rfl rfl (by kernel_rfl) (fun _ _ _ h=>h) rfl (by intro w hS;(try dsimp only at hS);go_split_ands;go_simp) hS0 ?_
    try simp only[aP]
    refine Ab (some 63) [10,11] 9 (pt wr.heap.size 1) rfl rfl (by kernel_rfl) (fun _ _ _ h=>h) rfl (by intro w hS;(try dsimp only at hS);go_split_ands;go_simp) hS0 ?_
    try simp only[aP]
    refine Ab (some 64) [11] 10 (iv a) rfl rfl (by kernel_rfl) (fun _ _ _ h=>h) rfl (by intro w hS;(try dsimp only at hS);go_split_ands;go_simp) hS0 ?_
    try simp only[aP]
    refine Ac (i:=11) (by kernel_rfl) rfl rfl (fun K hK=>?_);refine Fk (.tmp 61) (.tmp 62) (.tmp 64) 72 3 rfl rfl rfl rfl hinv ?_;refine hcall.mono ?_;intro r w7 hS;rcases HS7.out r w7 hS with⟨rfl,hrel7⟩ | ⟨c,rfl,hfp⟩
    ·show K _ _;refine hK _ _ (fun h=>by cases h) ?_;clear hK K
     try simp only[aP]
     refine Am (by kernel_rfl) ?_;simp only[Exit.inBlock,Exit.then];refine ‹∀(a:Act) (w:World),_->_› _ _ ?_;go_roundg g'
     case measure=>omega
     case rel=>exact⟨g',rfl,by omega,hrel7⟩
    ·exact⟨rfl,hfp⟩
  ·have hd:=hst.out;obtain⟨P,ks,loc',stk,q,ax,cx,hL,hx,ht⟩:=hd;obtain⟨b0,b1,b2,b3,b4⟩:=hL.fr.cells;obtain⟨a5,a6,a7,a8⟩:=hL.fr.ans;have hbl:=hL.fr.lt;obtain⟨z0,z1,z2,z3,y0,y1,y2,y3⟩:=Aa hxrr;have hrl:w.heap.size<wr.heap.size:=(Array.getElem?_eq_some_iff.1 hxrr).1;obtain⟨wN,hWN,hxN,hfN,hsN⟩:=Qh hxrr (iv o.val.k) (iv o.val.n) (.string ⟨o.val.t.toArray⟩) (.slice ax o.val.l.length cx);obtain⟨m0,m1,m2,m3,-⟩:=Aa hxN;have hlN:w.heap.size<wN.heap.size:=(Array.getElem?_eq_some_iff.1 hxN).1;have hbR:e.b≠w.heap.size:=by have:=hL.lb;omega
   have hfin:Hid (I0 base lo e.p A e.m e.cs e.fs e.ds e.ss o w (.returned (.agg #[iv o.val.k,iv o.val.n,.string ⟨o.val.t.toArray⟩,.slice ax o.val.l.length cx])) wN):=Wb HO.out eA ebs (Nat.le_of_lt hRlo) hFR hL hx ht hfN hxrr;clear hL hx ht hst HX hFR hxfr hxrr HO HB6 Hxf Hxr Hss HU HFn hxN hsN hfN ih hr hcon eA b0 b1 b2 b3;go_wp2_with fail;exact bodyPost_ret (v:=.agg #[iv o.val.k,iv o.val.n,.string ⟨o.val.t.toArray⟩,.slice ax o.val.l.length cx]) (by simp[results,Tryz.results31,go_sem,hlN,m0,m1,m2,m3]) rfl hfin.out
theorem Xu{m:Md}{states:Int}(hr:Run m states)(hcon:Av m.consts):∀G,Qq m states G:=fun G=>Nat.strongRecOn G (fun g ih=>Wc hr hcon ih)
end
end Go.Proofs.YtnijcolomoobnaaGreatDoor
