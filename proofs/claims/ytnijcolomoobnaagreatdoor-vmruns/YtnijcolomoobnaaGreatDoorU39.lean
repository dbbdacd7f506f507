/- Texts of ours, joined. -/
import Derived.Test.YtnijcolomoobnaaGreatDoorU37
import Derived.Test.YtnijcolomoobnaaGreatDoorU36
import Derived.Test.YtnijcolomoobnaaGreatDoorU34
set_option linter.unusedVariables false
set_option linter.unusedSimpArgs false
set_option maxRecDepth 100000
set_option maxHeartbeats 16000000
namespace Go.Proofs.YtnijcolomoobnaaGreatDoor
section
open Go.RowKit
attribute [local go_sem ↓] Go.wp_at_zero Go.wp_at_succ
structure LO(base lo p:Nat)(A:Nat->Prop)(m:Md)(cs fs ds ss:Value)(sts:List V)(fl:Int)(w:World):Prop where
 mc:Lm p w cs fs ds ss fl
 md:IsMd A w m cs fs
 st:Rw A w ss sts
 tb:Cj base w
 dg:Dg lo p ss ds w
 bp:base<=p
 pl:p<lo
 ls:lo<=w.heap.size
 bs:∀k,ss.ownBlock=some k->base<=k∧k<lo∧k≠p
 np:¬A p
 ns:∀k,ss.ownBlock=some k->¬A k
 hi:∀k,w.heap.size<=k->A k
def I0(base lo p:Nat)(A:Nat->Prop)(m:Md)(cs fs ds ss:Value)(o:VOut)(w:World)(r:Ending)(w':World):Prop:=
 (o.trap=0->∃ax cx,r=.returned (.agg #[iv o.val.k,iv o.val.n,.string ⟨o.val.t.toArray⟩,.slice ax o.val.l.length cx])∧IsW A w' o.val (.slice ax o.val.l.length cx)∧LO base lo p A m cs fs ds ss o.sts o.fuel w')∧(o.trap≠0->r=.panicked (Ca o.trap)∧Lm p w' cs fs ds ss o.fuel)∧Fr (fun k=>k≠p∧ss.ownBlock≠some k) w w'
def Qq(m:Md)(states:Int)(G:Nat):Prop:=∀(base lo p:Nat) (A:Nat->Prop) (cs fs ds ss:Value) (n:Nat) (f:Fu) (H:Nat->Option Int) (args sts:List V) (aa:Option Addr) (ca:Nat) (fl:Int) (o:VOut) (w:World),LO base lo p A m cs fs ds ss sts fl w->C2 A w args aa ca->(args.length:Int)=f.params->Vst m states n f H 0 (loc0 f args) [] sts fl->fl<=4096->vmRun it15 m G n 0 (loc0 f args) [] sts fl=some o ->
 Calls Tryz.prog 31 #[pt p 0,iv (n:Int),.slice aa args.length ca] w (I0 base lo p A m cs fs ds ss o w)
section
variable {e:En} {P:Nat->Prop} {ks:Value} {loc stk sts s:List V} {fl:Int} {q:Nat} {dn:Bool} {x y z u:V} {xs:Value} {w w' w2:World} {q':Int}
theorem LS.out(h:LS e P ks loc stk sts fl q' dn x xs w):LO e.base e.lo e.p P e.m e.cs e.fs e.ds e.ss sts fl w:=
 ⟨h.mc,h.md,h.st,h.tb,h.dg,h.bp,h.pl,by have:=h.lb;have:=h.fr.lt;omega,h.bs,h.np,h.ns,h.hi⟩
theorem LS.back{sts':List V}{fl':Int}(h:LS e P ks loc stk sts fl q' dn x xs w)(hf:Fr (fun k=>k≠e.p∧e.ss.ownBlock≠some k) w w')(ho:LO e.base e.lo e.p P e.m e.cs e.fs e.ds e.ss sts' fl' w'):LS e P ks loc stk sts' fl' q' dn x xs w':=by
 have hpl:=h.pl;have hlb:=h.lb;have hP:∀k,P k->k≠e.p∧e.ss.ownBlock≠some k:=fun k hk=>⟨fun e1=>h.np (e1 ▸ hk),fun e1=>h.ns k e1 hk⟩
 have hlo:∀k,e.lo<=k->k≠e.p∧e.ss.ownBlock≠some k:=fun k hk=>⟨by omega,fun e1=>by have:=(h.bs k e1).2.1;omega⟩
 have hrow:∀{sl:Value} {l:List V},Rw P w sl l->(∀k,sl.ownBlock=some k->e.lo<=k)->Rw P w' sl l:=fun {sl l} hr hl=>hr.since ⟨hf.size,fun k hk hh=>hf.block k (by
  rcases hk with hk | hk
  ·exact hP k hk
  ·exact hlo k (hl k hk)) hh⟩
 exact⟨ho.mc,h.fr.keep (hf.block _ (hlo _ hlb) h.fr.lt),ho.md,ho.st,hrow h.lc (fun k e1=>(h.ll k e1).1),hrow h.sk (fun k e1=>(h.lk k e1).1),ho.tb,ho.dg,h.bp,h.pl,h.bs,h.lb,h.ll,h.lk,h.np,h.nb,h.ns,h.nl,h.nk,h.pa,ho.hi⟩
theorem Rw.popped{v:List V}{ak:Option Addr}{n ck:Nat}(h:Rw P w (.slice ak n ck) (s ++ v)):C2 P w v (cutA ak s.length ck) (ck - s.length):=by
 obtain⟨row,h1,h2,h3⟩:=h;have hP:=h3.base (B':=P) (fun k hk _=>by rcases hk.1 with h | h;exact h;exact absurd h hk.2);have h4:=(hP.len_take (i:=s.length) (by simp)).2;rw[List.drop_left' rfl] at h4;refine⟨row.drop (s.length*4),h4.len,h4,?_,?_⟩
 ·intro hn;unfold cutA at hn;rcases h1.2 with⟨e0,h0⟩ | ⟨g,cap,cur,e0,-⟩
  ·simp only[Value.slice.injEq] at e0;simp at h0;exact⟨by simp[h0.2],by omega⟩
  ·simp only[Value.slice.injEq] at e0;obtain⟨rfl,-⟩:=e0;split at hn <;> cases hn
 ·intro b hb j u hu;rcases h1.2 with⟨e0,h0⟩ | ⟨g,cap,cur,e0,k1,k2,k3,k4,k5,k6⟩
  ·have hl:=h3.len;rw[h0] at hl;have:row=[]:=List.eq_nil_of_length_eq_zero (by omega);rw[this] at hu;simp at hu
  ·simp only[Value.slice.injEq] at e0;obtain⟨rfl,-,rfl⟩:=e0;have hlt:=(List.getElem?_eq_some_iff.1 hu).1;rw[List.length_drop,h3.len] at hlt;rw[Ec (by simp at k3;simp at hlt;omega)] at hb;obtain rfl:=Option.some.inj hb;have e1:(⟨g,s.length*4,none⟩:Addr).add j=⟨g,s.length*4+j,none⟩:=by simp[Addr.add]
   rw[e1,cell_block k2];rw[List.getElem?_drop,<-k6,List.getElem?_take] at hu;split at hu
   ·simpa using hu
   ·cases hu
theorem Qr(b:Addr)(j:Nat):(b.add j).block=b.block:=by unfold Addr.add;split <;> rfl
theorem C2.since{l:List V}{a:Option Addr}{c:Nat}{g:Nat}(h:C2 P w l a c)(hf:Fr (fun k=>k≠g) w w')(hg:¬P g)(ha:∀b,a=some b->b.block≠g):C2 P w' l a c:=by
 obtain⟨nrow,h1,h2,h3,h4⟩:=h;exact⟨nrow,h1,h2.since ⟨hf.size,fun k hk hl=>hf.block k (fun e1=>hg (e1 ▸ hk)) hl⟩,h3,fun b e1 j u hu=>by rw[World.cell?_of_block (hf.block _ (by show (b.add j).block≠g;rw[Qr];exact ha b e1) (Pk (h4 b e1 j u hu)))];exact h4 b e1 j u hu⟩
def J7(o:VOut)(q:Nat)(loc s:List V):Rs:=if o.trap≠0 then .trap o.trap o.fuel else .go q loc (s ++ [o.val]) o.sts o.fuel
theorem Mn{k:Nat}{f':Fu}{v:List V}(h:LS e P ks loc (s ++ v) sts fl q false V.zero sZ w)(hf':e.m.funcs[k]?=some f')(hv:(v.length:Int)=f'.params)(hfl:fl<1):Calls Tryz.prog 49 #[pt e.b 0,iv (k:Int)] w (StP e w (.trap 54 0)):=by
 obtain⟨ak,ck,hks,hck,hcm⟩:=h.sk.slice;have hlen:(s ++ v).length=s.length+v.length:=by simp
 rw[hlen] at hks hck;subst hks;have hC:=Eb (d:=v.length) (j:=s.length) h.fr hck hcm rfl;have hF1:Fr (fun k=>k≠e.b) w (w.setCell ⟨e.b,2,none⟩ (.slice ak s.length ck)):=Fr.set (by simp) _ _;have h1:=h.cut (j:=s.length) (by simp) hF1 (h.fr.setK _);rw[List.take_left' rfl] at h1;obtain⟨af,cf,hfs,hcf1,hcf2⟩:=h.md.fun_.slice;have hfun:=h.md.fun_;rw[hfs] at hfun;obtain⟨g,o,ac,cc,rfl,-,hg,p0,p1,p2,p3,p4,-⟩:=hfun.get hf';obtain⟨b0,-⟩:=h.fr.cells;obtain⟨-,m1,-⟩:=Ak h.mc;rw[hfs] at m1;rw[<-hv] at p0;have hlt:=(List.getElem?_eq_some_iff.1 hf').1;have hI:(k:Int)<(e.m.funcs.length:Int):=by omega
 have hI0:(0:Int)<=(k:Int):=by omega
 have hbl:=h.fr.lt;have hml:=h.mc.lt;obtain⟨c0,-⟩:=h1.fr.cells;have hbl1:=h1.fr.lt;have hCh:=Fs h1.mc (n:=1) hfl;have hfin:Hid (StP e w (.trap 54 0) (.panicked (Ca 54)) ((w.setCell ⟨e.b,2,none⟩ (.slice ak s.length ck)).setCell ⟨e.p,4,none⟩ (iv 0))):=⟨rfl,h1.mc.set 0,(h.fxb hF1).trans (h1.fxp (Fr.set (by simp) _ _))⟩;clear h h1 hfun hfs hF1 hf' hlen hlt hv hck hcf1 hcf2 p1 p2 p3 p4;generalize e.m.funcs.length=L at *;generalize cutA ak s.length ck=aj at *;generalize ck - s.length=cj at *;generalize w.setCell ⟨e.b,2,none⟩ (.slice ak s.length ck)=w1 at *;generalize v.length=vl at *;go_enter Tryz.func49,Tryz.ntmps49;go_wp2_with fail;refine hC.mono ?_;rintro r w3 ⟨rfl,hw⟩;subst hw;clear hC;go_wp2_with fail;refine hCh.mono ?_;rintro r w4 ⟨rfl,rfl⟩;exact⟨rfl,hfin.out⟩
theorem V7{states:Int}{G:Nat}(hFn:Qq e.m states G){k:Nat}{f':Fu}{H':Nat->Option Int}{v:List V}{o:VOut}(h:LS e P ks loc (s ++ v) sts fl q false V.zero sZ w)(hf':e.m.funcs[k]?=some f')(hv:(v.length:Int)=f'.params)(hfl:¬fl<1)(hfl2:fl<=4096)(hV:Vst e.m states k f' H' 0 (loc0 f' v) [] sts (fl - 1))(hrun:vmRun it15 e.m G k 0 (loc0 f' v) [] sts (fl - 1)=some o)(hn:s.length+1<=900000):Calls Tryz.prog 49 #[pt e.b 0,iv (k:Int)] w (StP e w (J7 o q loc s)):=by
 obtain⟨ak,ck,hks,hck,hcm⟩:=h.sk.slice;have hlen:(s ++ v).length=s.length+v.length:=by simp
 rw[hlen] at hks hck;subst hks;have hC:=Eb (d:=v.length) (j:=s.length) h.fr hck hcm rfl;have hF1:Fr (fun k=>k≠e.b) w (w.setCell ⟨e.b,2,none⟩ (.slice ak s.length ck)):=Fr.set (by simp) _ _;have h1:=h.cut (j:=s.length) (by simp) hF1 (h.fr.setK _);rw[List.take_left' rfl] at h1;have hR0:=Rw.popped h.sk;have hab:∀b,cutA ak s.length ck=some b->b.block≠e.b∧b.block≠e.p:=fun b hb=>by
  rcases ak with _ | ⟨g,o,sp⟩
  ·unfold cutA at hb;split at hb <;> cases hb
  ·have hg:(Value.slice (some ⟨g,o,sp⟩) (s.length+v.length) ck).ownBlock=some g:=rfl;have e1:b.block=g:=by
    unfold cutA at hb;split at hb
    ·cases hb;rfl
    ·simp[Addr.add] at hb;subst hb;split <;> rfl
   have:=h.lk g hg;have hpl:=h.pl;exact⟨by rw[e1];exact this.2.1,by rw[e1];omega⟩
 have hR1:=hR0.since hF1 h.nb (fun b hb=>(hab b hb).1);have hF2:Fr (fun k=>k≠e.p) (w.setCell ⟨e.b,2,none⟩ (.slice ak s.length ck)) ((w.setCell ⟨e.b,2,none⟩ (.slice ak s.length ck)).setCell ⟨e.p,4,none⟩ (iv (fl - 1))):=Fr.set (by simp) _ _;have h2:=h1.fuel hF2 (h1.mc.set (fl - 1));have hR2:=hR1.since hF2 h.np (fun b hb=>(hab b hb).2);have hFnC:=hFn _ _ _ _ _ _ _ _ k f' H' v sts _ _ (fl - 1) o _ h2.out hR2 hv hV (by omega) hrun;obtain⟨af,cf,hfs,hcf1,hcf2⟩:=h.md.fun_.slice;have hfun:=h.md.fun_;rw[hfs] at hfun;obtain⟨g,oo,ac,cc,rfl,-,hg,p0,p1,p2,p3,p4,-⟩:=hfun.get hf';obtain⟨b0,-⟩:=h.fr.cells;obtain⟨-,m1,-⟩:=Ak h.mc;rw[hfs] at m1;rw[<-hv] at p0;have hlt:=(List.getElem?_eq_some_iff.1 hf').1;have hI:(k:Int)<(e.m.funcs.length:Int):=by omega
 have hI0:(0:Int)<=(k:Int):=by omega
 have hbl:=h.fr.lt;have hml:=h.mc.lt;obtain⟨c0,-⟩:=h1.fr.cells;have hbl1:=h1.fr.lt;obtain⟨d0,-⟩:=h2.fr.cells;have hbl2:=h2.fr.lt;have hCh:=Gr h1.mc (n:=1) hfl (by omega) hfl2;have HX:Hid (Fx e w ((w.setCell ⟨e.b,2,none⟩ (.slice ak s.length ck)).setCell ⟨e.p,4,none⟩ (iv (fl - 1)))):=(h.fxb hF1).trans (h1.fxp hF2);have Hpl:Hid (e.p<e.lo∧∀k,e.ss.ownBlock=some k->k<e.lo):=⟨h.pl,fun k e1=>(h.bs k e1).2.1⟩;have H2:Hid _:=h2;clear h h1 h2 hfun hF1 hF2 hf' hlen hlt hR0 hR1 hR2 hab hV hrun hFn hv hck hcf1 hcf2 p1 p2 p3 p4 hfs;generalize e.m.funcs.length=L at *;generalize cutA ak s.length ck=aj at *;generalize ck - s.length=cj at *;generalize (w.setCell ⟨e.b,2,none⟩ (.slice ak s.length ck)).setCell ⟨e.p,4,none⟩ (iv (fl - 1))=w2 at *;generalize w.setCell ⟨e.b,2,none⟩ (.slice ak s.length ck)=w1 at *;generalize v.length=vl at *;go_enter Tryz.func49,Tryz.ntmps49;go_wp2_with fail;refine hC.mono ?_;rintro r w3 ⟨rfl,hw⟩;subst hw;clear hC;go_wp2_with fail;refine hCh.mono ?_;rintro r w4 ⟨rfl,hw⟩;subst hw;clear hCh;go_wp2_with fail;refine hFnC.mono ?_;rintro r w5 ⟨hp1,hp2,hp3⟩;clear hFnC;have hfx:Fx e w w5:=HX.out.trans (hp3.mono (fun k hk=>hk.2));by_cases ht:o.trap=0
 ·obtain⟨ax,cx,rfl,hx5,hLO⟩:=hp1 ht;have h5:=H2.out.back hp3 hLO;have hP:=Ed h5 hx5 hn;have HP:∀r w',_->StP e w (J7 o q loc s) r w':=fun r w' hp=>by
   unfold J7;rw[if_neg (by simp[ht])];exact StP.push h5 hfx hp
  replace HP:Hid _:=HP;clear hp1 hp2 hp3 hfx h5 hLO hx5 HX H2 Hpl ht;go_wp2_with fail;refine hP.mono ?_;rintro r w6 hp;have hfin:=HP.out r w6 hp;obtain⟨rfl,-⟩:=hp;clear hP HP;go_wp2_with fail
  go_end0
  exact hfin
 ·obtain⟨rfl,hm⟩:=hp2 ht;exact⟨rfl,by unfold J7;rw[if_pos ht];exact⟨rfl,hm,hfx⟩⟩
end
end
section
open Go.RowKit
def rsN:Nx->Rs
 | .done o=>if o.trap=0 then .ret o.val o.sts o.fuel else .trap o.trap o.fuel
 | .go q loc stk sts fl=>.go q loc stk sts fl
 | _=>.trap 0 0
def K4(m:Md)(states:Int)(n:Nat)(f:Fu)(H:Nat->Option Int)(g:Nat)(o:VOut):Rs->Prop
 | .go q loc stk sts fl=>Vst m states n f H q loc stk sts fl∧vmRun it15 m g n q loc stk sts fl=some o∧fl<=4096
 | .ret v sts fl=>o.val=v∧o.sts=sts∧o.fuel=fl∧o.trap=0
 | .trap t fl=>o.trap=t∧o.fuel=fl∧t≠0
theorem D0{m:Md}{i:In}{p:Nat}{loc s v sts:List V}{fl:Int}(h:12<=i.op):rsN (vmI it15 m i p loc s v sts fl)=opR (opV it15 i v) (p+1) loc s sts fl:=by
 rw[Tt h];unfold opR;split
 ·rename_i c;show (if _=0 then _ else _)=_;rw[if_neg c]
 ·rfl
theorem V8{m:Md}{states:Int}(hr:Run m states)(hcon:Av m.consts){n:Nat}{f:Fu}{H:Nat->Option Int}{q g:Nat}{loc stk sts:List V}{fl:Int}{o:VOut}(hV:Vst m states n f H q loc stk sts fl)(hfl:fl<=4096)(hrun:vmRun it15 m (g+1) n q loc stk sts fl=some o){i:In}(hc:f.code[q]?=some i)(h9:i.op≠9) :
  K4 m states n f H g o (rsN (vmI it15 m i q loc (A2 m i stk) (Dd m i stk) sts fl)):=by
 obtain⟨i',hc',-,-,-,-,-,-,-,hN⟩:=hV.ins (it:=it15) hr;obtain rfl:i=i':=Option.some.inj (hc.symm.trans hc');rw[vmRun,hN] at hrun;obtain⟨r1,r2,-⟩:=N6 hrun;rcases hx:vmI it15 m i q loc (A2 m i stk) (Dd m i stk) sts fl with o' | ⟨p',loc',stk',sts',fl'⟩ | ⟨k,lk,s',fl'⟩ | _
 ·obtain rfl:=r2 o' hx;show K4 _ _ _ _ _ _ _ (if _ then _ else _);split
  ·rename_i c;exact⟨rfl,rfl,rfl,c⟩
  ·rename_i c;exact⟨rfl,rfl,c⟩
 ·refine⟨hV.go Ce hr hcon hc hx,r1 _ _ _ _ _ hx,?_⟩;have:=(Gp (Fd hr f (List.mem_of_getElem? hV.hf) i (List.mem_of_getElem? hc)) hV.f0 hx).2.2.1;omega
 ·exact absurd (D6 hx).1 h9
 ·exact absurd (Pe hx).1 h9
theorem I1:A3 39:=fun args wx=>by kernel_rfl
theorem I2:A3 41:=fun args wx=>by kernel_rfl
theorem I3:A3 42:=fun args wx=>by kernel_rfl
theorem I4:A3 44:=fun args wx=>by kernel_rfl
theorem I5:A3 45:=fun args wx=>by kernel_rfl
theorem I6:A3 46:=fun args wx=>by kernel_rfl
theorem Mo:A3 47:=fun args wx=>by kernel_rfl
theorem Jn:A3 48:=fun args wx=>by kernel_rfl
theorem G0:A3 49:=fun args wx=>by kernel_rfl
theorem N8:A3 50:=fun args wx=>by kernel_rfl
theorem Jo:A3 52:=fun args wx=>by kernel_rfl
theorem Fj:A3 84:=fun args wx=>by kernel_rfl
theorem N9:A3 55:=fun args wx=>by kernel_rfl
theorem Jp:A3 56:=fun args wx=>by kernel_rfl
theorem Oa:A3 58:=fun args wx=>by kernel_rfl
theorem D1:A3 94:=fun args wx=>by kernel_rfl
theorem Ob:A3 62:=fun args wx=>by kernel_rfl
theorem Tu:A3 54:=fun args wx=>by kernel_rfl
theorem Tv:A3 57:=fun args wx=>by kernel_rfl
theorem V9:A3 60:=fun args wx=>by kernel_rfl
theorem Qs:A3 61:=fun args wx=>by kernel_rfl
theorem Tw:A3 63:=fun args wx=>by kernel_rfl
section
variable {e:En} {P:Nat->Prop} {ks:Value} {loc stk sts s:List V} {fl:Int} {q:Nat} {w:World}
theorem Tx{w:World}{gd:Nat}{arr:Array Value}{T:TypeId}(h:w.heap[gd]?=some (.cells arr T (0,0)))(j:Nat):w.cell? ⟨gd,j,none⟩=arr[j]?:=cell_block h j
def W1(e:En)(gd:Nat)(i:In)(w:World)(R:Rs):Prop:=(∃K caps,w.cell? ⟨gd,i.op.toNat,none⟩=some (.func (Fn.func K) #[] caps)∧A3 K∧Calls Tryz.prog K (#[pt e.b 0,iv i.a] ++ caps) w (StP e w R))∨(w.cell? ⟨gd,i.op.toNat,none⟩=some (.func (Fn.methodOf 72 "quern/vm.charge") #[] #[])∧Calls Tryz.prog 51 #[pt e.p 0,iv i.a] w (StP e w R))
theorem Qt{states:Int}{n g:Nat}{f:Fu}{H:Nat->Option Int}{o:VOut}(hr:Run e.m states)(hcon:Av e.m.consts)(hFn:Qq e.m states g)(h:LS e P ks loc stk sts fl ((q+1:Nat):Int) false V.zero sZ w)(hV:Vst e.m states n f H q loc stk sts fl)(hfl:fl<=4096)(hrun:vmRun it15 e.m (g+1) n q loc stk sts fl=some o){i:In}(hc:f.code[q]?=some i) :
  ∃gd R,e.ds=sL gd 0 22 22∧gd<w.heap.size∧K4 e.m states n f H g o R∧1<=i.op∧i.op<=21∧W1 e gd i w R:=by
 obtain⟨gd,g13,g16,g18,g19,g21,hds,r0,r13,r16,r18,r19,r21,hk⟩:=h.dg;have hrow:=Tx r0;have hb:∀k,k=gd∨k=g13∨k=g16∨k=g18∨k=g19∨k=g21->k≠e.b:=fun k hh=>by have:=(hk k hh).1;have:=h.lb;omega
 obtain⟨i',hc',hin,a1,a2,a3,a4,a5,a6,hN⟩:=hV.ins (it:=it15) hr;obtain rfl:i=i':=Option.some.inj (hc.symm.trans hc');obtain⟨lo1,lo2,lo3,lo4⟩:=Au.1 hin;have hst:stk=A2 e.m i stk ++ Dd e.m i stk:=(List.take_append_drop _ _).symm;have htop:=hV.top;have hn:(A2 e.m i stk).length+1<=900000:=by simp;omega
 have hn':stk.length+1<=900000:=by omega
 have hsv:Av (Dd e.m i stk):=hV.sstk.drop _;have h1:∀{vs:List V},vs.length=1->∃x0,vs=[x0]:=fun {vs} h=>List.length_eq_one_iff.1 h
 have h2:∀{vs:List V},vs.length=2->∃x0 x1,vs=[x0,x1]:=fun {vs} h=>by
  match vs,h with
  | [a,b],_=>exact⟨a,b,rfl⟩
 have h3:∀{vs:List V},vs.length=3->∃x0 x1 x2,vs=[x0,x1,x2]:=fun {vs} h=>by
  match vs,h with
  | [a,b,c],_=>exact⟨a,b,c,rfl⟩
 have hcell1:∀{k:Nat} {v:Value} {T:TypeId},w.heap[k]?=some (.cells #[v] T (0,0))->w.cell? ⟨k,0,none⟩=some v∧k<w.heap.size:=fun {k v T} hh=>⟨Ap hh,(Array.getElem?_eq_some_iff.1 hh).1⟩
 have hp12:(i.op=20->(Dd e.m i stk).length=3)∧(i.op=12∨i.op=17∨i.op=18∨i.op=19∨i.op=21->(Dd e.m i stk).length=2)∧(i.op=3∨i.op=5∨i.op=6∨i.op=8∨i.op=10∨i.op=13∨i.op=14∨i.op=15∨i.op=16->(Dd e.m i stk).length=1)∧(i.op=1∨i.op=2∨i.op=4∨i.op=7∨i.op=11->(Dd e.m i stk).length=0):=by
  unfold popN Eh F0 at a2;refine⟨fun e=>?_,fun e=>?_,fun e=>?_,fun e=>?_⟩
  ·rw[e] at a2;simp at a2;simp;omega
  ·rcases e with e | e | e | e | e <;> rw[e] at a2 <;> simp at a2 <;> simp <;> omega
  ·rcases e with e | e | e | e | e | e | e | e | e <;> rw[e] at a2 <;> simp at a2 <;> simp <;> omega
  ·rcases e with e | e | e | e | e <;> rw[e] at a2 <;> simp at a2 <;> simp <;> omega
 obtain⟨hp3,hp2,hp1,hp0⟩:=hp12;have hgd:=(Array.getElem?_eq_some_iff.1 r0).1;by_cases h9:i.op=9
 ·-- a call
  have hlo:0<=i.a:=by unfold Bc at lo3;rw[h9] at lo3;simpa using lo3
  have hup:i.a<n:=by unfold Bx at lo4;rw[h9] at lo4;simpa using lo4
  have hnl:=(List.getElem?_eq_some_iff.1 hV.hf).1;have hkl:i.a.toNat<e.m.funcs.length:=by omega
  have hf':e.m.funcs[i.a.toNat]?=some e.m.funcs[i.a.toNat]:=List.getElem?_eq_getElem hkl;generalize hff:e.m.funcs[i.a.toNat]=f' at hf';have hcellK:w.cell? ⟨gd,i.op.toNat,none⟩=some (.func (Fn.func 49) #[] #[]):=by rw[hrow,h9];rfl
  have hpar:((Dd e.m i stk).length:Int)=f'.params:=by
   rw[a2];unfold popN Eh F0;rw[h9];simp[hf']
  have hia:((i.a.toNat:Nat):Int)=i.a:=by omega
  rw[vmRun,hN] at hrun;obtain⟨r1,r2,r3⟩:=N6 hrun;rw[hst] at h;by_cases hf1:fl<1
  ·have hx:vmI it15 e.m i q loc (A2 e.m i stk) (Dd e.m i stk) sts fl=.done ⟨zV,sts,0,54⟩:=by
    unfold vmI;rw[h9];simp[hf1]
   have ho:=r2 _ hx;refine⟨gd,.trap 54 0,hds,hgd,?_,lo1,lo2,Or.inl ⟨_,#[],hcellK,G0,?_⟩⟩
   ·rw[<-ho];exact⟨rfl,rfl,by omega⟩
   ·have:=Mn h hf' hpar hf1;rw[hia] at this;exact this
  ·have hx:vmI it15 e.m i q loc (A2 e.m i stk) (Dd e.m i stk) sts fl=.call i.a.toNat (loc0 f' (Dd e.m i stk)) (A2 e.m i stk) (fl - 1):=by
    unfold vmI;rw[h9];simp[hf1,hf']
   obtain⟨o',ho',ht1,ht2⟩:=r3 _ _ _ _ hx;obtain⟨f2,H',hV'⟩:=hV.call Ce hr hcon hc hx;obtain rfl:f'=f2:=Option.some.inj (hf'.symm.trans hV'.hf);refine⟨gd,J7 o' (q+1) loc (A2 e.m i stk),hds,hgd,?_,lo1,lo2,Or.inl ⟨_,#[],hcellK,G0,?_⟩⟩
   ·unfold J7;split
    ·rename_i c;rw[<-ht1 c];exact⟨rfl,rfl,c⟩
    ·rename_i c;have c0:o'.trap=0:=Classical.not_not.1 c;refine⟨hV.back Ce hr hcon hc hx ho' c0,ht2 c0,?_⟩;have:=(Dx (Fd hr) _ hV'.f0 ho').2.1;omega
   ·have:=V7 hFn h hf' hpar hf1 hfl hV' ho' hn;rw[hia] at this;exact this
 have hstep:=V8 hr hcon hV hfl hrun hc h9;refine⟨gd,_,hds,hgd,hstep,lo1,lo2,?_⟩;clear hrun hstep a5 a6 hN hFn;obtain⟨op,a⟩:=i;simp only at *;have hcs:op=1∨op=2∨op=3∨op=4∨op=5∨op=6∨op=7∨op=8∨op=10∨op=11∨op=12∨op=13∨op=14∨op=15∨op=16∨op=17∨op=18∨op=19∨op=20∨op=21:=by omega
 rcases hcs with rfl | rfl | rfl | rfl | rfl | rfl | rfl | rfl | rfl | rfl | rfl | rfl | rfl | rfl | rfl | rfl | rfl | rfl | rfl | rfl
 ·obtain⟨k,rfl⟩:∃k:Nat,a=(k:Int):=⟨a.toNat,by unfold Bc at lo3;simp at lo3;omega⟩;have hlt:k<e.m.consts.length:=by unfold Bx at lo4;simp at lo4;omega
  have hcc:=List.getElem?_eq_getElem hlt;have hv0:Dd e.m _ stk=[]:=List.eq_nil_of_length_eq_zero (hp0 (by simp));rw[hv0,List.append_nil] at hst;rw[hv0];generalize A2 e.m _ stk=s at hst ⊢;subst hst;have e1:rsN (vmI it15 e.m ⟨1,(k:Int)⟩ q loc stk [] sts fl)=.go (q+1) loc (stk ++ [e.m.consts[k]]) sts fl:=by simp[vmI,rsN,List.getD,hcc]
  rw[e1];exact Or.inl ⟨_,#[],by rw[hrow];rfl,I1,To h hcc hn'⟩
 ·obtain⟨k,rfl⟩:∃k:Nat,a=(k:Int):=⟨a.toNat,by unfold Bc at lo3;simp at lo3;omega⟩;have hlt:k<loc.length:=by have:=hV.ll;unfold Bx at lo4;simp at lo4;omega
  have hcc:=List.getElem?_eq_getElem hlt;have hv0:Dd e.m _ stk=[]:=List.eq_nil_of_length_eq_zero (hp0 (by simp));rw[hv0,List.append_nil] at hst;rw[hv0];generalize A2 e.m _ stk=s at hst ⊢;subst hst;have e1:rsN (vmI it15 e.m ⟨2,(k:Int)⟩ q loc stk [] sts fl)=.go (q+1) loc (stk ++ [loc[k]]) sts fl:=by simp[vmI,rsN,List.getD,hcc]
  rw[e1];exact Or.inl ⟨_,#[],by rw[hrow];rfl,I2,V2 h hcc hn'⟩
 ·obtain⟨k,rfl⟩:∃k:Nat,a=(k:Int):=⟨a.toNat,by unfold Bc at lo3;simp at lo3;omega⟩;have hlt:k<loc.length:=by have:=hV.ll;unfold Bx at lo4;simp at lo4;omega
  obtain⟨y,hv⟩:=h1 (hp1 (by simp));rw[hv] at hst hsv;rw[hv];clear hp0 hp1 hp2 hp3 hv a2;generalize A2 e.m _ stk=s at hst hn ⊢;subst hst;have e1:rsN (vmI it15 e.m ⟨3,(k:Int)⟩ q loc s [y] sts fl)=.go (q+1) (loc.set k y) s sts fl:=by simp[vmI,rsN]
  rw[e1];exact Or.inl ⟨_,#[],by rw[hrow];rfl,I3,Ts h hlt⟩
 ·obtain⟨k,rfl⟩:∃k:Nat,a=(k:Int):=⟨a.toNat,by unfold Bc at lo3;simp at lo3;omega⟩;have hlt:k<sts.length:=by have:=hV.sl;unfold Bx at lo4;simp at lo4;omega
  have hcc:=List.getElem?_eq_getElem hlt;have hv0:Dd e.m _ stk=[]:=List.eq_nil_of_length_eq_zero (hp0 (by simp));rw[hv0,List.append_nil] at hst;rw[hv0];generalize A2 e.m _ stk=s at hst ⊢;subst hst;have e1:rsN (vmI it15 e.m ⟨4,(k:Int)⟩ q loc stk [] sts fl)=.go (q+1) loc (stk ++ [sts[k]]) sts fl:=by simp[vmI,rsN,List.getD,hcc]
  rw[e1];exact Or.inl ⟨_,#[],by rw[hrow];rfl,I4,Xj h hcc hn'⟩
 ·obtain⟨k,rfl⟩:∃k:Nat,a=(k:Int):=⟨a.toNat,by unfold Bc at lo3;simp at lo3;omega⟩;have hlt:k<sts.length:=by have:=hV.sl;unfold Bx at lo4;simp at lo4;omega
  obtain⟨y,hv⟩:=h1 (hp1 (by simp));rw[hv] at hst hsv;rw[hv];clear hp0 hp1 hp2 hp3 hv a2;generalize A2 e.m _ stk=s at hst hn ⊢;subst hst;have e1:rsN (vmI it15 e.m ⟨5,(k:Int)⟩ q loc s [y] sts fl)=.go (q+1) loc s (sts.set k y) fl:=by simp[vmI,rsN]
  rw[e1];exact Or.inl ⟨_,#[],by rw[hrow];rfl,I5,Xq h hlt⟩
 ·obtain⟨y,hv⟩:=h1 (hp1 (by simp));rw[hv] at hst hsv;rw[hv];clear hp0 hp1 hp2 hp3 hv a2;generalize A2 e.m _ stk=s at hst hn ⊢;subst hst;have e1:rsN (vmI it15 e.m ⟨6,a⟩ q loc s [y] sts fl)=.go (q+1) loc s sts fl:=by simp[vmI,rsN]
  rw[e1];exact Or.inl ⟨_,#[],by rw[hrow];rfl,I6,Xk a h⟩
 ·obtain⟨k,rfl⟩:∃k:Nat,a=(k:Int):=⟨a.toNat,by unfold Bc at lo3;simp at lo3;omega⟩;have hv0:Dd e.m _ stk=[]:=List.eq_nil_of_length_eq_zero (hp0 (by simp));rw[hv0,List.append_nil] at hst;rw[hv0];generalize A2 e.m _ stk=s at hst ⊢;subst hst;have e1:rsN (vmI it15 e.m ⟨7,(k:Int)⟩ q loc stk [] sts fl)=N3 (q+1) k loc stk sts fl:=by
   unfold N3;by_cases c:k<q+1
   ·have c':k<=q:=by omega
    rw[if_pos c];by_cases cf:fl<1 <;> simp[vmI,rsN,cf,c']
   ·have c':¬k<=q:=by omega
    rw[if_neg c];simp[vmI,rsN,c']
  rw[e1];exact Or.inl ⟨_,#[],by rw[hrow];rfl,Mo,Pj h hfl⟩
 ·obtain⟨k,rfl⟩:∃k:Nat,a=(k:Int):=⟨a.toNat,by unfold Bc at lo3;simp at lo3;omega⟩;obtain⟨y,hv⟩:=h1 (hp1 (by simp));rw[hv] at hst hsv;rw[hv];clear hp0 hp1 hp2 hp3 hv a2;generalize A2 e.m _ stk=s at hst hn ⊢;subst hst;have sy:=hsv y (by simp);have e1:rsN (vmI it15 e.m ⟨8,(k:Int)⟩ q loc s [y] sts fl)=V3 y (q+1) k loc s sts fl:=by
   unfold V3;by_cases c2:y.k=2
   ·have hn2:y.n=0∨y.n=1:=by
     obtain⟨k',n',t',l'⟩:=y;obtain rfl:k'=2:=c2;exact (Xi.1 sy.2).1
    rw[if_neg (by simp[c2])];rcases hn2 with hn2 | hn2
    ·rw[hn2];unfold N3;by_cases c:k<q+1
     ·have c':k<=q:=by omega
      rw[if_neg (by simp),if_pos c];by_cases cf:fl<1 <;> simp[vmI,rsN,cf,c',c2,hn2]
     ·have c':¬k<=q:=by omega
      rw[if_neg (by simp),if_neg c];simp[vmI,rsN,c',c2,hn2]
    ·rw[hn2];simp[vmI,rsN,c2,hn2]
   ·rw[if_pos c2];simp[vmI,rsN,c2]
  rw[e1];exact Or.inl ⟨_,#[],by rw[hrow];rfl,Jn,Qm h hfl⟩
 ·obtain⟨y,hv⟩:=h1 (hp1 (by simp));rw[hv] at hst hsv;rw[hv];clear hp0 hp1 hp2 hp3 hv a2;generalize A2 e.m _ stk=s at hst hn ⊢;subst hst;have e1:rsN (vmI it15 e.m ⟨10,a⟩ q loc s [y] sts fl)=.ret y sts fl:=by simp[vmI,rsN]
  rw[e1];exact Or.inl ⟨_,#[],by rw[hrow];rfl,N8,Xl a h⟩
 ·have hv0:Dd e.m _ stk=[]:=List.eq_nil_of_length_eq_zero (hp0 (by simp));rw[hv0,List.append_nil] at hst;rw[hv0];generalize A2 e.m _ stk=s at hst ⊢;subst hst;have ha0:0<=a:=by unfold Bc at lo3;simpa using lo3
  refine Or.inr ⟨by rw[hrow];rfl,?_⟩;by_cases cf:fl<a
  ·have e1:rsN (vmI it15 e.m ⟨11,a⟩ q loc stk [] sts fl)=.trap 54 0:=by simp[vmI,rsN,cf]
   rw[e1];refine (Fs h.mc cf).mono ?_;rintro r w' ⟨rfl,rfl⟩;exact⟨rfl,h.mc.set 0,h.fxp (Fr.set (by simp) _ _)⟩
  ·have e1:rsN (vmI it15 e.m ⟨11,a⟩ q loc stk [] sts fl)=.go (q+1) loc stk sts (fl - a):=by simp[vmI,rsN,cf]
   rw[e1];refine (Gr h.mc cf ha0 hfl).mono ?_;rintro r w' ⟨rfl,rfl⟩;exact⟨rfl,⟨P,ks,h.fuel (Fr.set (by simp) _ _) (h.mc.set _)⟩,h.fxp (Fr.set (by simp) _ _)⟩
 ·obtain⟨y,z,hv⟩:=h2 (hp2 (by simp));rw[hv] at hst hsv;rw[hv];clear hp0 hp1 hp2 hp3 hv a2;generalize A2 e.m _ stk=s at hst hn ⊢;subst hst;rw[D0 (by simp)];exact Or.inl ⟨_,#[],by rw[hrow];rfl,Jo,Qn h (hsv y (by simp)) (hsv z (by simp)) hn⟩
 ·obtain⟨y,hv⟩:=h1 (hp1 (by simp));rw[hv] at hst hsv;rw[hv];clear hp0 hp1 hp2 hp3 hv a2;generalize A2 e.m _ stk=s at hst hn ⊢;subst hst;rw[D0 (by simp)];obtain⟨q1,q2⟩:=hcell1 r13;obtain⟨n1,n2,n3,n4⟩:=Iu (a:=y);exact Or.inl ⟨_,#[pt g13 0],by rw[hrow];rfl,Fj,Tr h Tu q1 q2 (hb _ (by simp)) (fun wx ay cy _ _ hy=>(Vr hy.nr wx).mono (fun r w' hr=>hr.out n1 n2 n3 n4)) hn⟩
 ·obtain⟨y,hv⟩:=h1 (hp1 (by simp));rw[hv] at hst hsv;rw[hv];clear hp0 hp1 hp2 hp3 hv a2;generalize A2 e.m _ stk=s at hst hn ⊢;subst hst;rw[D0 (by simp)];exact Or.inl ⟨_,#[],by rw[hrow];rfl,N9,Xo a h (hsv y (by simp)) hn⟩
 ·obtain⟨y,hv⟩:=h1 (hp1 (by simp));rw[hv] at hst hsv;rw[hv];clear hp0 hp1 hp2 hp3 hv a2;generalize A2 e.m _ stk=s at hst hn ⊢;subst hst;rw[D0 (by simp)];exact Or.inl ⟨_,#[],by rw[hrow];rfl,Jp,Xp a h (hsv y (by simp)) hn⟩
 ·obtain⟨y,hv⟩:=h1 (hp1 (by simp));rw[hv] at hst hsv;rw[hv];clear hp0 hp1 hp2 hp3 hv a2;generalize A2 e.m _ stk=s at hst hn ⊢;subst hst;rw[D0 (by simp)];obtain⟨q1,q2⟩:=hcell1 r16;obtain⟨n1,n2,n3,n4⟩:=Ir y;exact Or.inl ⟨_,#[pt g16 0],by rw[hrow];rfl,Fj,Tr h Tv q1 q2 (hb _ (by simp)) (fun wx ay cy hbs htb hy=>(Vs hbs htb hy.nr).mono (fun r w' hr=>hr.out n1 n2 n3 n4)) hn⟩
 ·obtain⟨y,z,hv⟩:=h2 (hp2 (by simp));rw[hv] at hst hsv;rw[hv];clear hp0 hp1 hp2 hp3 hv a2;generalize A2 e.m _ stk=s at hst hn ⊢;subst hst;rw[D0 (by simp)];exact Or.inl ⟨_,#[],by rw[hrow];rfl,Oa,Xt a h (hsv y (by simp)) hn⟩
 ·obtain⟨y,z,hv⟩:=h2 (hp2 (by simp));rw[hv] at hst hsv;rw[hv];clear hp0 hp1 hp2 hp3 hv a2;generalize A2 e.m _ stk=s at hst hn ⊢;subst hst;rw[D0 (by simp)];obtain⟨q1,q2⟩:=hcell1 r18;exact Or.inl ⟨_,#[pt g18 0],by rw[hrow];rfl,D1,N4 h V9 q1 q2 (hb _ (by simp)) (fun wx ay cy az cz hy hz=>Xm hy hz (by have:=(hsv y (by simp)).1;omega) (hsv y (by simp)).tidy) hn⟩
 ·obtain⟨y,z,hv⟩:=h2 (hp2 (by simp));rw[hv] at hst hsv;rw[hv];clear hp0 hp1 hp2 hp3 hv a2;generalize A2 e.m _ stk=s at hst hn ⊢;subst hst;rw[D0 (by simp)];obtain⟨q1,q2⟩:=hcell1 r19;exact Or.inl ⟨_,#[pt g19 0],by rw[hrow];rfl,D1,N4 h Qs q1 q2 (hb _ (by simp)) (fun wx ay cy az cz hy hz=>Tb hy hz (by have:=(hsv y (by simp)).1;omega) (by have:=(hsv z (by simp)).1;omega)) hn⟩
 ·obtain⟨y,z,u,hv⟩:=h3 (hp3 (by simp));rw[hv] at hst hsv;rw[hv];clear hp0 hp1 hp2 hp3 hv a2;generalize A2 e.m _ stk=s at hst hn ⊢;subst hst;rw[D0 (by simp)];exact Or.inl ⟨_,#[],by rw[hrow];rfl,Ob,Xr a h (hsv y (by simp)) (hsv z (by simp)) (hsv u (by simp)) hn⟩
 ·obtain⟨y,z,hv⟩:=h2 (hp2 (by simp));rw[hv] at hst hsv;rw[hv];clear hp0 hp1 hp2 hp3 hv a2;generalize A2 e.m _ stk=s at hst hn ⊢;subst hst;rw[D0 (by simp)];obtain⟨q1,q2⟩:=hcell1 r21;exact Or.inl ⟨_,#[pt g21 0],by rw[hrow];rfl,D1,N4 h Tw q1 q2 (hb _ (by simp)) (fun wx ay cy az cz hy hz=>V5 hy hz (by have:=(hsv y (by simp)).1;omega) (hsv y (by simp)).tidy) hn⟩
end
theorem Fk{P:Program}{w:World}{o:Oper}{a:Act}{K:Act->World->Prop}{Q:Exit->Act->World->Prop}(f x y:Operand)(t1 t2:TypeId)(ho:o.op=.call { callee:=.value f,args:=#[x,y],argTypes:=#[t1,t2] }){fn:Fn}{caps:Array Value}(hf:a.eval f=.func fn #[] caps){v1 v2:Value}(hx:a.eval x=v1)(hy:a.eval y=v2){G:FuncId}{args:Array Value}(hinv:(invoke (.fn fn caps) #[v1,v2]).run P w=.ok (.enter G args) w)
  (h:Calls P G args w fun r w'=>match r with
   | .returned v=>K (a.put o.dst v) w'
   | .panicked c=>Q (.panic c) a w'
   | .outgrown=>LetsOut Q):o.wp P a w K Q:=by
 unfold Oper.wp execOp;simp[ho,resolve,Deferred.ofValue,hf,hx,hy,hinv];rw[Oper.upon_enter];refine h.mono ?_;intro r w' hh;cases r <;> exact hh
theorem Tz{K:FuncId}(h:A3 K)(caps:Array Value)(v1 v2:Value)(w:World):(invoke (.fn (Fn.func K) caps) #[v1,v2]).run Tryz.prog w=.ok (.enter K (#[v1,v2] ++ caps)) w:=by
 unfold invoke;simp only[];exact h _ w
theorem Oc{b p:Nat}{a:Value}{caps:Array Value}{w:World}(h:w.cell? ⟨b,0,none⟩=some (pt p 0))(hl:b<w.heap.size):(invoke (.fn (Fn.methodOf 72 "quern/vm.charge") caps) #[pt b 0,a]).run Tryz.prog w=.ok (.enter 51 #[pt p 0,a]) w:=by
 have h1:((Tryz.prog.info? 72).bind fun i=>i.methods.find? (·.name == "quern/vm.charge")).map (fun m=>(m.path.toList,m.func))=some ([{ struct:=75,index:=0,deref:=true }],some (51,true)):=by kernel_rfl
 have h2:(match Tryz.prog.underlying 75 with
  | some (.struct fs)=>(fs[0]?).map (fun f=>(f.type,f.offset))
  | _=>none)=some (58,0):=by kernel_rfl
 have h3:Tryz.prog.underlying 58=some (.pointer 62):=by kernel_rfl
 have h4:Tryz.prog.underlying 72=some (.pointer 75):=by kernel_rfl
 have hen:∀(args:Array Value) (wx:World),(callFunc 51 args).run Tryz.prog wx=.ok (.enter 51 args) wx:=fun args wx=>by kernel_rfl
 rcases hi:Tryz.prog.info? 72 with _ | i
 ·rw[hi] at h1;cases h1
 rw[hi] at h1;rcases hm:i.methods.find? (·.name == "quern/vm.charge") with _ | m
 ·simp[hm] at h1
 simp only[Option.bind_some,hm,Option.map_some,Option.some.injEq,Prod.mk.injEq] at h1;obtain⟨hp,hfn⟩:=h1;rcases hu:Tryz.prog.underlying 75 with _ | d
 ·rw[hu] at h2;cases h2
 rw[hu] at h2;cases d <;> simp only[] at h2 <;> try (cases h2)
 rename_i fs;rcases hf0:fs[0]? with _ | f0
 ·rw[hf0] at h2;cases h2
 rw[hf0] at h2;simp only[Option.map_some,Option.some.injEq,Prod.mk.injEq] at h2;obtain⟨ht,ho⟩:=h2;have hsz:∀wx:World,(sizeOf 58).run Tryz.prog wx=.ok 1 wx:=fun wx=>by kernel_rfl
 have hag:∀wx:World,(isAgg 58).run Tryz.prog wx=.ok false wx:=fun wx=>by kernel_rfl
 have hld:(loadVar 58 ⟨b,0,none⟩).run Tryz.prog w=.ok (pt p 0) w:=by
  unfold loadVar;simp[hag,go_sem,h,hl]
 have hfp:(fieldPlace ⟨b,0,none⟩ f0).run Tryz.prog w=.ok ⟨b,0,none⟩ w:=by
  unfold fieldPlace;rw[ht,ho];simp[hsz,Addr.add]
 have hfl:(follow [{ struct:=75,index:=0,deref:=true }] 72 (.val (pt b 0))).run Tryz.prog w=.ok (58,.var ⟨b,0,none⟩) w:=by
  simp[follow,run_underlying hu,hf0,Place.get,asAddr,hfp,ht]
 have hrv:(receiverAt 58 (.var ⟨b,0,none⟩) true none).run Tryz.prog w=.ok (pt p 0) w:=by
  simp[receiverAt,run_underlying h3,Place.get,hld]
 obtain⟨N,hN⟩:∃N,Tryz.prog.types.size+Made.depth=N+1:=⟨Tryz.prog.types.size+Made.depth - 1,by unfold Made.depth;omega⟩;have hpe:¬m.path=#[]:=by
  intro h0;rw[h0] at hp;cases hp
 have hti:(typeInfo 72).run Tryz.prog w=.ok i w:=by simp[typeInfo,hi]
 have hme:(method (N+1) 72 (pt b 0) "quern/vm.charge").run Tryz.prog w=.ok (51,pt p 0) w:=by
  unfold method;simp[hti,hm,hp,hfl,hfn,hpe,hrv]
 have hcm:(callMethod (.iface 72 (pt b 0)) "quern/vm.charge" #[a]).run Tryz.prog w=.ok (.enter 51 #[pt p 0,a]) w:=by
  simp only[callMethod,Sem.run_bind,run_program,Result.andThen_ok];rw[hN,hme];simp only[Result.andThen_ok];exact hen _ _
 unfold invoke;simp[run_underlying h4,hcm]
end
end Go.Proofs.YtnijcolomoobnaaGreatDoor
