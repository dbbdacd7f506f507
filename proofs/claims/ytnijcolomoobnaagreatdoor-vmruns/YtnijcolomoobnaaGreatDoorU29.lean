/- Texts of ours, joined. -/
import Derived.Test.YtnijcolomoobnaaGreatDoorU27
import Derived.Lib.ItoaLen
import Derived.Lib.AppendIntMem
import Derived.Test.YtnijcolomoobnaaGreatDoorU28
set_option linter.unusedVariables false
set_option linter.unusedSimpArgs false
set_option maxRecDepth 100000
set_option maxHeartbeats 16000000
namespace Go.Proofs.YtnijcolomoobnaaGreatDoor
section
open Go.RowKit
attribute [local go_sem ↓] Go.wp_at_zero Go.wp_at_succ
def Prs(l:List V):Prop:=l.length % 2=0∧l.length<=128∧Cy l
theorem K0{B:Nat->Prop}{l:List V}{ao:Option Addr}{cap:Nat}{w:World}(hl:Al B w l (.slice ao l.length cap)) :
  Calls Tryz.prog 37 #[.slice ao l.length cap] w fun r w'=>Bn (Prs l) r∧Below w.heap.size w w':=by
 obtain⟨ao',cap',e,a1,a2⟩:=hl.slice;simp only[Value.slice.injEq] at e;obtain⟨rfl,-,rfl⟩:=e;by_cases hodd:l.length % 2=1
 ·have h1:Int.tmod (l.length:Int) 2=1:=by rw[Int.tmod_eq_emod_of_nonneg (by omega)];omega
  have h2:(l.length:Int) % 2=1:=by omega
  have hw1:IntKind.i64.wrap 1=1:=by rw[IntKind.wrap_i64];rfl
  have hno:Hid (¬Prs l):=fun h=>by have:=h.1;omega
  clear hl hodd;go_enter Tryz.func37,Tryz.ntmps37;go_wp2;go_ret;exact⟨Bn.mk (b:=false) ⟨fun h=>(by cases h),fun h=>absurd h hno.out⟩,Below.refl _ _⟩
 have h1:Int.tmod (l.length:Int) 2=0:=by rw[Int.tmod_eq_emod_of_nonneg (by omega)];omega
 have h2:(l.length:Int) % 2=0:=by omega
 have hw1:IntKind.i64.wrap 0=0:=by rw[IntKind.wrap_i64];rfl
 by_cases hbig:64<(l.length:Int) / 2
 ·have h3:Int.tdiv (l.length:Int) 2=(l.length:Int) / 2:=by rw[Int.tdiv_eq_ediv_of_nonneg (by omega)]
  have h4:IntKind.i64.wrap ((l.length:Int) / 2)=(l.length:Int) / 2:=by rw[IntKind.wrap_i64];omega
  have hno:Hid (¬Prs l):=fun h=>by have:=h.2.1;omega
  clear hl hodd;go_enter Tryz.func37,Tryz.ntmps37;go_wp2;go_ret;exact⟨Bn.mk (b:=false) ⟨fun h=>(by cases h),fun h=>absurd h hno.out⟩,Below.refl _ _⟩
 have h3:Int.tdiv (l.length:Int) 2=(l.length:Int) / 2:=by rw[Int.tdiv_eq_ediv_of_nonneg (by omega)]
 have h4:IntKind.i64.wrap ((l.length:Int) / 2)=(l.length:Int) / 2:=by rw[IntKind.wrap_i64];omega
 have hsm:l.length<=128:=by omega
 have heven:Hid (l.length % 2=0):=by show _=_;omega
 have hround:∀(q:Nat) (wr:World),q<l.length->Below w.heap.size w wr ->
   ∃x g o ax cx,l[q]?=some x∧ao=some ⟨g,o,none⟩∧g<wr.heap.size∧wr.cell? ⟨g,o+q*4,none⟩=some (iv x.k)∧wr.cell? ⟨g,o+q*4+1,none⟩=some (iv x.n)∧wr.cell? ⟨g,o+q*4+2,none⟩=some (bz x.t)∧wr.cell? ⟨g,o+q*4+3,none⟩=some (.slice ax x.l.length cx)∧IsW B wr x (.slice ax x.l.length cx):=by
  intro q wr hq hB;have hx:l[q]?=some l[q]:=List.getElem?_eq_getElem hq;obtain⟨g,o,ax,cx,e,_,hg1,c0,c1,c2,c3,hw⟩:=(hl.below hB).get hx;exact⟨l[q],g,o,ax,cx,hx,e,hg1,c0,c1,c2,c3,hw⟩
 have Hround:Hid _:=hround;clear hl hround hodd;go_enter Tryz.func37,Tryz.ntmps37;go_wp2_with fail
 go_loopg [3] l.length (fun g i wr=>∃j m:Nat,Hid (m=2*j+2)∧m<=l.length+2∧g=l.length+2 - m∧i=iv m∧Hid (∀(i:Nat) (a b:V),i<j->l[2*i]?=some a->l[2*i+2]?=some b->cmpV a b<0)∧Below w.heap.size w wr)
 case atStart=>exact⟨0,2,rfl,by omega,by omega,rfl,fun i a b h=>by omega,Below.refl _ _⟩
 case round=>
  obtain⟨j,m,Hm,hm,rfl,rfl,HQ,hB⟩:=hrel;by_cases hlt:m<l.length
  ·obtain⟨m',Hm'⟩:∃m':Nat,Hid (m'=2*j):=⟨_,rfl⟩;have hmm:m=m'+2:=by have:=Hm.out;have:=Hm'.out;omega
   obtain⟨x,g,o,ax,cx,hx,rfl,hg,x0,x1,x2',x3,hwx⟩:=Hround.out m wr hlt hB;obtain⟨p,g',o',ap,cp,hp,e,-,p0,p1,p2,p3,hwp⟩:=Hround.out m' wr (by omega) hB;simp only[Option.some.injEq,Addr.mk.injEq] at e;obtain⟨rfl,rfl,-⟩:=e;have hltI:(m:Int)<(l.length:Int):=by omega
   have hC3:∀w5,Below wr.heap.size wr w5->Calls Tryz.prog 78 #[.agg #[iv p.k,iv p.n,bz p.t,.slice ap p.l.length cp],.agg #[iv x.k,iv x.n,bz x.t,.slice ax x.l.length cx]] w5 fun r w'=>r=.returned (iv (cmpV p x))∧Below w5.heap.size w5 w':=fun w5 hb5=>Cm (hwp.below hb5) (hwx.below hb5)
   have Hp:Hid (l[2*j]?=some p):=by show _=_;rw[<-Hm'.out];exact hp
   have Hx:Hid (l[2*j+2]?=some x):=by show _=_;rw[<-Hm'.out,<-hmm];exact hx
   have hI0:(0:Int)<=(m':Int):=by omega
   have hI1:(m':Int)<(l.length:Int):=by omega
   have hI4:(0:Int)<=(m:Int):=by omega
   have hs22:(m:Int) - 2=(m':Int):=by omega
   have hw22:IntKind.i64.wrap ((m:Int) - 2)=(m':Int):=by rw[hs22,IntKind.wrap_i64];omega
   have hw23:IntKind.i64.wrap (m':Int)=(m':Int):=by rw[IntKind.wrap_i64];omega
   clear Hround hwp hwx hx hp hmm h1 h2 h3 h4;go_wp2_with fail;go_region_held3 (fun w'=>w'.cell? ⟨g,o+m'*4,none⟩=some (iv p.k)∧w'.cell? ⟨g,o+m'*4+1,none⟩=some (iv p.n)∧w'.cell? ⟨g,o+m'*4+2,none⟩=some (bz p.t)∧w'.cell? ⟨g,o+m'*4+3,none⟩=some (.slice ap p.l.length cp)∧w'.cell? ⟨g,o+m*4,none⟩=some (iv x.k)∧w'.cell? ⟨g,o+m*4+1,none⟩=some (iv x.n)∧w'.cell? ⟨g,o+m*4+2,none⟩=some (bz x.t)∧w'.cell? ⟨g,o+m*4+3,none⟩=some (.slice ax x.l.length cx)) (go_keep)
    ((go_at_call 78;refine (hC3 _ (Below.refl _ _).drew).mono ?_;rintro e w5 ⟨rfl,hb5⟩;replace hb5:=Ad hb5;obtain⟨f3,-⟩:=Ag hb5))
   have hB5:Below w.heap.size w w5:=hB.trans (hb5.mono hB.size);have hge:Hid (cmpV p x<0∨0<=cmpV p x):=by show _∨_;omega
   have hneg:Hid (0<=cmpV p x->¬Prs l):=fun h0 h=>by have:=h.2.2 j p x Hp.out Hx.out;omega
   have hpos:Hid (cmpV p x<0->∀(i:Nat) (a b:V),i<j+1->l[2*i]?=some a->l[2*i+2]?=some b->cmpV a b<0):=fun h0 i a b hi ha hb=>by
    by_cases e:i=j
    ·subst e;rw[Hp.out] at ha;rw[Hx.out] at hb;cases ha;cases hb;exact h0
    ·exact HQ.out i a b (by omega) ha hb
   clear f3 hC3 p0 p1 p2 p3 x0 x1 x2' x3 hw22 hs22 Hp Hx HQ;generalize cmpV p x=c at *;rcases hge.out with hc | hc
   ·have hcI:¬(0:Int)<=c:=by omega
    have HQ3:Hid (∀(i:Nat) (a b:V),i<j+1->l[2*i]?=some a->l[2*i+2]?=some b->cmpV a b<0):=hpos.out hc;clear hneg hpos hge;go_wp2_with fail;go_roundg (l.length+2 - (m+2))
    case measure=>omega
    case rel=>exact⟨j+1,m+2,by have:=Hm.out;show _=_;omega,by omega,rfl,by go_num,HQ3,hB5⟩
   ·have hfin:Hid (¬Prs l):=hneg.out hc;clear hneg hpos hge;go_wp2;go_ret;exact⟨Bn.mk (b:=false) ⟨fun h=>(by cases h),fun h=>absurd h hfin.out⟩,hB5⟩
  ·have hltI:¬(m:Int)<(l.length:Int):=by omega
   have hfin:Hid (Prs l):=⟨heven.out,hsm,fun i a b ha hb=>HQ.out i a b (by have:=(List.getElem?_eq_some_iff.1 hb).1;have:=Hm.out;omega) ha hb⟩;clear Hround HQ;go_wp2;go_ret;exact⟨Bn.mk (b:=true) ⟨fun _=>hfin.out,fun _=>rfl⟩,hB⟩
open Classical in
noncomputable def sdB (v:V):Bool:=decide (Sd v)
theorem Pi{v:V}:sdB v=true↔Sd v:=by unfold sdB;simp
theorem K1{l:List V}:l.all sdB=true↔∀x∈l,Sd x:=by simp[List.all_eq_true,Pi]
theorem Yo{n:Int}{t:List UInt8}{l:List V}:Sd (.mk 1 n t l)↔t=[]∧l=[]:=by
 rw[Bd];refine⟨fun h=>⟨h.2.2.1 (by omega),h.2.2.2.2.1 (by omega)⟩,?_⟩;rintro⟨rfl,rfl⟩;exact⟨by omega,by omega,fun _=>rfl,by omega,fun _=>rfl,by omega,by omega,by omega,by omega,by simp⟩
theorem Xi{n:Int}{t:List UInt8}{l:List V}:Sd (.mk 2 n t l)↔(n=0∨n=1)∧t=[]∧l=[]:=by
 rw[Bd];refine⟨fun h=>⟨h.2.2.2.2.2.2.1 rfl,h.2.2.1 (by omega),h.2.2.2.2.1 (by omega)⟩,?_⟩;rintro⟨hn,rfl,rfl⟩;exact⟨by omega,by omega,fun _=>rfl,by omega,fun _=>rfl,by omega,fun _=>hn,by omega,by omega,by simp⟩
theorem Yp{n:Int}{t:List UInt8}{l:List V}:Sd (.mk 3 n t l)↔n=0∧t.length<=256∧l=[]:=by
 rw[Bd];refine⟨fun h=>⟨h.2.2.2.1 (by omega),h.2.2.2.2.2.2.2.1 rfl,h.2.2.2.2.1 (by omega)⟩,?_⟩;rintro⟨rfl,ht,rfl⟩;exact⟨by omega,by omega,fun h=>absurd rfl h,fun _=>rfl,fun _=>rfl,by omega,by omega,fun _=>ht,by omega,by simp⟩
theorem Yq{n:Int}{t:List UInt8}{l:List V}:Sd (.mk 4 n t l)↔n=0∧t=[]∧l.length<=64∧∀x∈l,Sd x:=by
 rw[Bd];refine⟨fun h=>⟨h.2.2.2.1 (by omega),h.2.2.1 (by omega),h.2.2.2.2.2.2.2.2.1 rfl,h.2.2.2.2.2.2.2.2.2⟩,?_⟩;rintro⟨rfl,rfl,hl,h⟩;exact⟨by omega,by omega,fun _=>rfl,fun _=>rfl,by omega,by omega,by omega,by omega,fun _=>hl,h⟩
theorem Yr{n:Int}{t:List UInt8}{l:List V}:Sd (.mk 5 n t l)↔n=0∧t=[]∧Prs l∧∀x∈l,Sd x:=by
 rw[Bd];refine⟨fun h=>⟨h.2.2.2.1 (by omega),h.2.2.1 (by omega),⟨(h.2.2.2.2.2.1 rfl).2.1,(h.2.2.2.2.2.1 rfl).2.2,(h.2.2.2.2.2.1 rfl).1⟩,h.2.2.2.2.2.2.2.2.2⟩,?_⟩;rintro⟨rfl,rfl,hl,h⟩;exact⟨by omega,by omega,fun _=>rfl,fun _=>rfl,by omega,fun _=>⟨hl.2.2,hl.1,hl.2.1⟩,by omega,by omega,by omega,h⟩
theorem len_bool(l:List V):(((l.length:Int) == 0)=true∧l=[])∨(((l.length:Int) == 0)=false∧l≠[]):=by
 cases l
 ·exact Or.inl ⟨rfl,rfl⟩
 ·exact Or.inr ⟨by simp;omega,by simp⟩
theorem txt_bool(t:List UInt8):((t == [])=true∧t=[])∨((t == [])=false∧t≠[]):=by
 cases t
 ·exact Or.inl ⟨rfl,rfl⟩
 ·exact Or.inr ⟨rfl,by simp⟩
theorem num_bool(n m:Int):((n == m)=true∧n=m)∨((n == m)=false∧n≠m):=by
 by_cases h:n=m
 ·exact Or.inl ⟨by simp[h],h⟩
 ·exact Or.inr ⟨by simpa using h,h⟩
theorem C7{P:Prop}(h:¬P):Bn P (.returned (.bool false)):=⟨false,rfl,fun e=>(by cases e),fun e=>absurd e h⟩
theorem K2{P:Prop}(h:P):Bn P (.returned (.bool true)):=⟨true,rfl,fun _=>h,fun _=>rfl⟩
theorem Iv:∀(N:Nat) (v:V) (sl:Value) (B:Nat->Prop) (w:World),wt v<N->IsW B w v sl ->
  Calls Tryz.prog 22 #[.agg #[iv v.k,iv v.n,bz v.t,sl]] w fun r w'=>Bn (Sd v) r∧Below w.heap.size w w'
 | 0,v,sl,B,w,h,_=>by omega
 | N+1,.mk k n t l,sl,B,w,hN,hv=>by
  obtain⟨ao,cap,e,hc1,hc2⟩:=hv.vs.slice;subst e;obtain⟨w0,hW,hb0,hsz,d0,d1,d2,d3⟩:=Aw w (.mk k n t l) (.slice ao l.length cap);simp only[V.k,V.n,V.t,V.l] at hW d0 d1 d2 d3 hc1 hc2 ⊢;have hvl:Al B w0 l (.slice ao l.length cap):=hv.vs.below hb0;have hgb:w.heap.size<w0.heap.size:=by omega
  have hih:J3 22 B l sdB:=fun x sx w2 hx hxw=>by
   have hwt:wt x<N:=by rw[wt] at hN;have:=Iq hx;omega
   refine (Iv N x sx B w2 hwt hxw).mono ?_;rintro r w' ⟨⟨b,rfl,hb⟩,hbl⟩;have e:b=sdB x:=by rw[Bool.eq_iff_iff,hb,Pi]
   exact⟨by rw[e],hbl⟩
  have hall:∀w2,Below w0.heap.size w0 w2->Calls Tryz.prog 36 #[.slice ao l.length cap,.func (Fn.func 22) #[] #[]] w2 fun r w'=>r=.returned (.bool (l.all sdB))∧Below w2.heap.size w2 w':=fun w2 hb=>Fq hih Jl (hvl.below hb)
  have hprs:∀w2,Below w0.heap.size w0 w2->Calls Tryz.prog 37 #[.slice ao l.length cap] w2 fun r w'=>Bn (Prs l) r∧Below w2.heap.size w2 w':=fun w2 hb=>K0 (hvl.below hb)
  clear hih hvl hv hN hsz;by_cases k1:k=1
  ·subst k1;have Hs:=@Yo n t l;replace Hs:Hid _:=Hs;clear hall hprs;rcases txt_bool t with⟨et,ct⟩ | ⟨et,ct⟩ <;> rcases len_bool l with⟨el,cl⟩ | ⟨el,cl⟩
   ·have hf:Hid (Sd (.mk 1 n t l)):=Hs.out.2 ⟨ct,cl⟩;clear ct cl Hs;go_enter Tryz.func22,Tryz.ntmps22;go_wp2;go_ret;exact⟨K2 hf.out,hb0⟩
   all_goals
    have hf:Hid (¬Sd (.mk 1 n t l)):=fun h=>by obtain⟨h1,h2⟩:=Hs.out.1 h;contradiction
    clear ct cl Hs;go_enter Tryz.func22,Tryz.ntmps22;go_wp2;go_ret;exact⟨C7 hf.out,hb0⟩
  by_cases k2:k=2
  ·subst k2;have Hs:=@Xi n t l;replace Hs:Hid _:=Hs;clear hall hprs k1;have hn:(((n == 0)=true)∨((n == 0)=false∧(n == 1)=true))∧(n=0∨n=1)∨((n == 0)=false∧(n == 1)=false)∧¬(n=0∨n=1):=by
    rcases num_bool n 0 with⟨a,b⟩ | ⟨a,b⟩
    ·exact Or.inl ⟨Or.inl a,Or.inl b⟩
    ·rcases num_bool n 1 with⟨c,d⟩ | ⟨c,d⟩
     ·exact Or.inl ⟨Or.inr ⟨a,c⟩,Or.inr d⟩
     ·exact Or.inr ⟨⟨a,c⟩,fun h=>by rcases h with h | h <;> contradiction⟩
   rcases hn with⟨en | ⟨en,en1⟩,cn⟩ | ⟨⟨en,en1⟩,cn⟩ <;> rcases txt_bool t with⟨et,ct⟩ | ⟨et,ct⟩ <;> rcases len_bool l with⟨el,cl⟩ | ⟨el,cl⟩
   all_goals
    first
    |(have hf:Hid (Sd (.mk 2 n t l)):=Hs.out.2 ⟨cn,ct,cl⟩
      clear ct cl cn Hs;go_enter Tryz.func22,Tryz.ntmps22;go_wp2;go_ret;exact⟨K2 hf.out,hb0⟩)
    |(have hf:Hid (¬Sd (.mk 2 n t l)):=fun h=>by obtain⟨h0,h1,h2⟩:=Hs.out.1 h;contradiction
      clear ct cl cn Hs;go_enter Tryz.func22,Tryz.ntmps22;go_wp2;go_ret;exact⟨C7 hf.out,hb0⟩)
  by_cases k3:k=3
  ·subst k3;have Hs:=@Yp n t l;replace Hs:Hid _:=Hs;clear hall hprs k1 k2;have ht:((t.length:Int)<=256∧t.length<=256)∨(¬(t.length:Int)<=256∧¬t.length<=256):=by omega
   rcases num_bool n 0 with⟨en,cn⟩ | ⟨en,cn⟩ <;> rcases ht with⟨et,ct⟩ | ⟨et,ct⟩ <;> rcases len_bool l with⟨el,cl⟩ | ⟨el,cl⟩
   all_goals
    first
    |(have hf:Hid (Sd (.mk 3 n t l)):=Hs.out.2 ⟨cn,ct,cl⟩
      clear ct cl cn Hs;go_enter Tryz.func22,Tryz.ntmps22;go_wp2;go_ret;exact⟨K2 hf.out,hb0⟩)
    |(have hf:Hid (¬Sd (.mk 3 n t l)):=fun h=>by obtain⟨h0,h1,h2⟩:=Hs.out.1 h;contradiction
      clear ct cl cn Hs;go_enter Tryz.func22,Tryz.ntmps22;go_wp2;go_ret;exact⟨C7 hf.out,hb0⟩)
  by_cases k4:k=4
  ·subst k4;have Hs:=@Yq n t l;replace Hs:Hid _:=Hs;clear hprs k1 k2 k3;have ht:((l.length:Int)<=64∧l.length<=64)∨(¬(l.length:Int)<=64∧¬l.length<=64):=by omega
   rcases num_bool n 0 with⟨en,cn⟩ | ⟨en,cn⟩ <;> rcases txt_bool t with⟨et,ct⟩ | ⟨et,ct⟩ <;> rcases ht with⟨el,cl⟩ | ⟨el,cl⟩
   ·have hf:Hid (l.all sdB=true↔Sd (.mk 4 n t l)):=⟨fun h=>Hs.out.2 ⟨cn,ct,cl,K1.1 h⟩,fun h=>K1.2 (Hs.out.1 h).2.2.2⟩;have hC:=hall w0 (Below.refl _ _);clear ct cl cn Hs hall;generalize l.all sdB=b at *;go_enter Tryz.func22,Tryz.ntmps22;go_wp2_with fail;refine hC.mono ?_;rintro r w3 ⟨rfl,hb3⟩;clear hC;go_wp2;go_ret;exact⟨⟨b,rfl,hf.out⟩,hb0.trans (hb3.mono hb0.size)⟩
   all_goals
    have hf:Hid (¬Sd (.mk 4 n t l)):=fun h=>by obtain⟨h0,h1,h2,-⟩:=Hs.out.1 h;contradiction
    clear ct cl cn Hs hall;go_enter Tryz.func22,Tryz.ntmps22;go_wp2;go_ret;exact⟨C7 hf.out,hb0⟩
  by_cases k5:k=5
  ·subst k5;have Hs:=@Yr n t l;replace Hs:Hid _:=Hs;clear k1 k2 k3 k4;rcases num_bool n 0 with⟨en,cn⟩ | ⟨en,cn⟩ <;> rcases txt_bool t with⟨et,ct⟩ | ⟨et,ct⟩
   ·have hf:Hid (l.all sdB=true->Prs l->Sd (.mk 5 n t l)):=fun h h'=>Hs.out.2 ⟨cn,ct,h',K1.1 h⟩
    have hf1:Hid (Sd (.mk 5 n t l)->l.all sdB=true∧Prs l):=fun h=>⟨K1.2 (Hs.out.1 h).2.2.2,(Hs.out.1 h).2.2.1⟩
    have hP:=hprs w0 (Below.refl _ _);clear ct cn Hs hprs;generalize l.all sdB=b at *;go_enter Tryz.func22,Tryz.ntmps22;go_wp2_with fail;refine hP.mono ?_;rintro r w3 ⟨⟨b1,rfl,hb1⟩,hb3⟩;have Hb1:Hid (b1=true↔Prs l):=hb1;have c3:w3.cell? ⟨w.heap.size,3,none⟩=some (.slice ao l.length cap):=((Ag hb3).1 _ _ hgb).trans d3;have hg3:w.heap.size<w3.heap.size:=by have:=hb3.size;omega
    have hC:=hall w3 hb3;clear hP hb1 hall;cases b1
    ·go_wp2;go_ret;exact⟨C7 (fun h=>by have:=Hb1.out.2 (hf1.out h).2;cases this),hb0.trans (hb3.mono hb0.size)⟩
    ·go_wp2_with fail
     refine hC.mono ?_;rintro r w4 ⟨rfl,hb4⟩;clear hC;go_wp2;go_ret;exact⟨⟨b,rfl,fun h=>hf.out h (Hb1.out.1 (by simp)),fun h=>(hf1.out h).1⟩,(hb0.trans (hb3.mono hb0.size)).trans (hb4.mono (Nat.le_trans hb0.size hb3.size))⟩
   all_goals
    have hf:Hid (¬Sd (.mk 5 n t l)):=fun h=>by obtain⟨h0,h1,h2,-⟩:=Hs.out.1 h;contradiction
    clear ct cn Hs hall hprs;go_enter Tryz.func22,Tryz.ntmps22;go_wp2;go_ret;exact⟨C7 hf.out,hb0⟩
  ·have hf:Hid (¬Sd (.mk k n t l)):=fun h=>by rw[Bd] at h;omega
   have e1:(k == 1)=false:=by simpa using k1
   have e2:(k == 2)=false:=by simpa using k2
   have e3:(k == 3)=false:=by simpa using k3
   have e4:(k == 4)=false:=by simpa using k4
   have e5:(k == 5)=false:=by simpa using k5
   clear hall hprs;go_enter Tryz.func22,Tryz.ntmps22;go_wp2;go_ret;exact⟨C7 hf.out,hb0⟩
theorem Qi{B:Nat->Prop}{v:V}{sl:Value}{w:World}(hv:IsW B w v sl)(hw:wt v<=1000000) :
  Calls Tryz.prog 9 #[.agg #[iv v.k,iv v.n,bz v.t,sl]] w fun r w'=>Bn (Snd v) r∧Below w.heap.size w w':=by
 obtain⟨ao,cap,rfl,hc1,hc2⟩:=hv.vs.slice;obtain⟨w0,hW,hb0,hsz,d0,d1,d2,d3⟩:=Aw w v (.slice ao v.l.length cap);have hgb:w.heap.size<w0.heap.size:=by omega
 have hR:=Mh _ v _ B w0 16384 (Nat.lt_succ_self _) hw (by omega) (by omega) (hv.below hb0);have hF:∀w2,Below w0.heap.size w0 w2->Calls Tryz.prog 22 #[.agg #[iv v.k,iv v.n,bz v.t,.slice ao v.l.length cap]] w2 fun r w'=>Bn (Sd v) r∧Below w2.heap.size w2 w':=fun w2 hb=>Iv _ v _ B w2 (Nat.lt_succ_self _) ((hv.below hb0).below hb)
 clear hv hw hsz;go_enter Tryz.func9,Tryz.ntmps9;go_wp2_with fail;refine hR.mono ?_;rintro r w3 ⟨⟨z,rfl,hz⟩,hb3⟩;obtain⟨f3,-⟩:=Ag hb3;have e0:=(f3 _ 0 hgb).trans d0;have e1:=(f3 _ 1 hgb).trans d1;have e2:=(f3 _ 2 hgb).trans d2;have e3:=(f3 _ 3 hgb).trans d3;have hg3:w.heap.size<w3.heap.size:=by have:=hb3.size;omega
 have hz1:Hid (¬(wt v:Int)<=16384->z<0):=hz.2.1;have hz2:Hid ((wt v:Int)<=16384->0<=z):=fun h=>by have:=hz.1 h;omega
 have hFF:=hF w3 hb3;clear hR f3 d0 d1 d2 d3 hz hF;by_cases hw:(wt v:Int)<=16384
 ·have hz0:(0:Int)<=z:=hz2.out hw;have Hw:Hid (wt v<=16384):=by show _<=_;omega
  clear hz1 hz2 hw;go_wp2_with fail;refine hFF.mono ?_;rintro r w4 ⟨⟨b,rfl,hb⟩,hb4⟩;have Hb:Hid (b=true↔Sd v):=hb;clear hFF hb;go_wp2;go_ret;exact⟨⟨b,rfl,fun h=>⟨Hw.out,Hb.out.1 h⟩,fun h=>Hb.out.2 h.2⟩,(hb0.trans (hb3.mono hb0.size)).trans (hb4.mono (Nat.le_trans hb0.size hb3.size))⟩
 ·have hz0:¬(0:Int)<=z:=by have:=hz1.out hw;omega
  have Hw:Hid (¬wt v<=16384):=by show ¬_;omega
  clear hz1 hz2 hw hFF;go_wp2;go_ret;exact⟨C7 (fun h=>Hw.out h.1),hb0.trans (hb3.mono hb0.size)⟩
end
section
open Go.RowKit
def Cj(base:Nat)(w:World):Prop:=Lib.TabBelow Tryz.prog base w "internal/strconv.uint64pow10" .u64 Lib.pow10Tab
theorem Cj.mono{base:Nat}{w w':World}(h:Cj base w)(k:Below base w w'):Cj base w':=fun w2 h2=>h w2 (k.trans h2)
theorem Cj.fr{base:Nat}{G:Nat->Prop}{w w':World}(h:Cj base w)(k:Fr G w w')(hb:base<=w.heap.size)(hG:∀j,j<base->G j):Cj base w':=h.mono (k.below hb hG)
open Classical in
noncomputable def it15 (n:Int):List UInt8:=if InR n then Lib.itoa n else []
theorem it15_in{n:Int}(h:InR n):it15 n=Lib.itoa n:=by unfold it15;rw[if_pos h]
theorem Ce(n:Int):(it15 n).length<=256:=by
 unfold it15;split
 ·rename_i h;have:=Lib.itoa_length_le n h.1 h.2;omega
 ·simp
theorem Th{base:Nat}{n:Int}{w:World}(h:Cj base w)(hn:InR n):Calls Tryz.prog 91 #[iv n] w fun r w'=>r=.returned (.string ⟨(it15 n).toArray⟩)∧Below w.heap.size w w':=by
 refine (Tryz.strconv_Itoa n hn.1 hn.2 w h.here).mono ?_;rintro r w' ⟨rfl,k,os,rfl⟩;exact⟨by rw[it15_in hn],Lib.below_grow _ _ (Nat.le_refl _) k os⟩
theorem Vs{base:Nat}{v:V}{sl:Value}{w:World}(hb:base<=w.heap.size)(h:Cj base w)(hn:InR v.n):Calls Tryz.prog 57 #[.agg #[iv v.k,iv v.n,bz v.t,sl]] w fun r w'=>Bg (strV (it15 v.n) v) w r w':=Xf (by have:=Ce v.n;omega) (fun w' hw=>Th (h.mono (hw.mono hb)) hn)
theorem Ir(v:V):(strV (it15 v.n) v).1.l=[]∧InR (strV (it15 v.n) v).1.k∧InR (strV (it15 v.n) v).1.n∧(strV (it15 v.n) v).1.t.length<=maxLen:=by
 have hr:∀n:Int,0<=n->n<=100->InR n:=fun n h1 h2=>by unfold InR;omega
 unfold strV;split
 ·refine⟨rfl,hr 3 (by omega) (by omega),hr 0 (by omega) (by omega),?_⟩;show (it15 v.n).length<=maxLen;have:=Ce v.n;unfold maxLen;omega
 ·exact⟨rfl,hr 0 (by omega) (by omega),hr 0 (by omega) (by omega),by unfold maxLen;simp[V.t]⟩
def Bq(A:Nat->Prop)(ls:Value):Nat->Prop:=fun k=>A k∧ls.ownBlock≠some k
structure VmO(base p:Nat)(A:Nat->Prop)(m:Md)(cs fs ss:Value)(sts:List V)(fl tr:Int)(w:World):Prop where
 mc:Mc p w cs fs ss fl tr
 md:IsMd A w m cs fs
 st:Gv (fun k=>A k∨ss.ownBlock=some k) w ss sts
 tb:Cj base w
 bp:base<=p
 bs:∀k,ss.ownBlock=some k->base<=k
 np:¬A p
 ns:∀k,ss.ownBlock=some k->¬A k
 sp:ss.ownBlock≠some p
 hi:∀k,w.heap.size<=k->A k
structure VmS(base p:Nat)(A:Nat->Prop)(m:Md)(cs fs ss ls:Value)(loc sts:List V)(fl tr:Int)(w:World):Prop where
 mc:Mc p w cs fs ss fl tr
 md:IsMd (Bq A ls) w m cs fs
 st:Gv (fun k=>Bq A ls k∨ss.ownBlock=some k) w ss sts
 lc:Gv A w ls loc
 tb:Cj base w
 bp:base<=p
 bs:∀k,ss.ownBlock=some k->base<=k
 bl:∀k,ls.ownBlock=some k->base<=k
 np:¬A p
 ns:∀k,ss.ownBlock=some k->¬A k
 sp:ss.ownBlock≠some p
 hi:∀k,w.heap.size<=k->A k
theorem Gv.lt{P:Nat->Prop}{w:World}{sl:Value}{acc:List V}(h:Gv P w sl acc){k:Nat}(hk:sl.ownBlock=some k):P k∧k<w.heap.size:=by
 obtain⟨row,h1,h2,h3⟩:=h;exact⟨h2 k hk,(h1.lt k hk).2⟩
section
variable {base p:Nat} {A:Nat->Prop} {m:Md} {cs fs ss ls:Value} {loc sts:List V} {fl tr:Int} {w w':World}
theorem VmS.bq(h:VmS base p A m cs fs ss ls loc sts fl tr w){k:Nat}(hk:w.heap.size<=k):Bq A ls k:=⟨h.hi k hk,fun e=>by have:=(h.lc.lt e).2;omega⟩
theorem VmS.le(h:VmS base p A m cs fs ss ls loc sts fl tr w):base<=w.heap.size:=by have:=h.mc.lt;have:=h.bp;omega
theorem VmO.le(h:VmO base p A m cs fs ss sts fl tr w):base<=w.heap.size:=by have:=h.mc.lt;have:=h.bp;omega
theorem VmO.keep(h:VmO base p A m cs fs ss sts fl tr w)(hb:Below w.heap.size w w'):VmO base p A m cs fs ss sts fl tr w':=
 ⟨h.mc.below hb,h.md.below hb,h.st.below hb,h.tb.mono (hb.mono h.le),h.bp,h.bs,h.np,h.ns,h.sp,fun k hk=>h.hi k (Nat.le_trans hb.size hk)⟩
theorem VmS.keep(h:VmS base p A m cs fs ss ls loc sts fl tr w)(hb:Below w.heap.size w w'):VmS base p A m cs fs ss ls loc sts fl tr w':=
 ⟨h.mc.below hb,h.md.below hb,h.st.below hb,h.lc.below hb,h.tb.mono (hb.mono h.le),h.bp,h.bs,h.bl,h.np,h.ns,h.sp,fun k hk=>h.hi k (Nat.le_trans hb.size hk)⟩
theorem VmS.box{fl' tr':Int}(h:VmS base p A m cs fs ss ls loc sts fl tr w)(hf:Fr (fun k=>k≠p) w w')(hm:Mc p w' cs fs ss fl' tr'):VmS base p A m cs fs ss ls loc sts fl' tr' w':=by
 have hA:∀k,A k->k≠p:=fun k hk e=>h.np (e ▸ hk)
 exact⟨hm,h.md.since ⟨hf.size,fun k hk hl=>hf.block k (hA k hk.1) hl⟩,h.st.since ⟨hf.size,fun k hk hl=>hf.block k (by
  rcases hk with hk | hk
  ·exact hA k hk.1
  ·rintro rfl;exact h.sp hk) hl⟩,h.lc.since ⟨hf.size,fun k hk hl=>hf.block k (hA k hk) hl⟩,h.tb.fr hf h.le (fun j hj=>by have:=h.bp;show j≠p;omega),h.bp,h.bs,h.bl,h.np,h.ns,h.sp,fun k hk=>h.hi k (Nat.le_trans hf.size hk)⟩
theorem Ea{l:List V}{i:Nat}{x:V}(hi:i<l.length):l.take i ++ [x] ++ l.drop (i+1)=l.set i x:=by
 rw[List.set_eq_take_append_cons_drop,if_pos hi];simp
theorem Ky{g n cap:Nat}{k:Nat}(hk:(sL g 0 n cap).ownBlock≠some k):k≠g:=fun e=>hk (by rw[e];rfl)
theorem VmS.setL{gl n cap:Nat}(h:VmS base p A m cs fs ss (sL gl 0 n cap) loc sts fl tr w){i:Nat}(hi:i<loc.length){x:V}{xs:Value}(hx:IsW (Bq A (sL gl 0 n cap)) w x xs):VmS base p A m cs fs ss (sL gl 0 n cap) (loc.set i x) sts fl tr (set4At w gl (i*4) (iv x.k) (iv x.n) (bz x.t) xs):=by
 have hgl:=h.lc.lt (k:=gl) rfl;have hs:∀{P:Nat->Prop},(¬P gl)->Since P w (set4At w gl (i*4) (iv x.k) (iv x.n) (bz x.t) xs):=fun {P} h=>Bi h _ _ _ _ _
 have hb:Below gl w (set4At w gl (i*4) (iv x.k) (iv x.n) (bz x.t) xs):=Ct (Below.refl _ _) (Nat.le_refl _) _ _ _ _ _;refine⟨h.mc.keep ?_,h.md.since (hs (fun hk=>Ky hk.2 rfl)),h.st.since (hs ?_),?_,h.tb.mono (hb.mono (h.bl gl rfl)),h.bp,h.bs,h.bl,h.np,h.ns,h.sp,fun k hk=>h.hi k (Nat.le_trans hb.size hk)⟩
 ·exact (hs (P:=fun k=>k≠gl) (by simp)).block p (fun e=>h.np (e ▸ hgl.1)) h.mc.lt
 ·rintro (hk | hk)
  ·exact Ky hk.2 rfl
  ·exact h.ns gl hk hgl.1
 ·rw[<-Ea hi];exact h.lc.set hi (At.2 ⟨xs,rfl,hx.base (fun k hk _=>⟨hk.1,Ky hk.2⟩)⟩)
theorem VmS.setS{gs n cap:Nat}(h:VmS base p A m cs fs (sL gs 0 n cap) ls loc sts fl tr w){i:Nat}(hi:i<sts.length){x:V}{xs:Value}(hx:IsW (Bq A ls) w x xs):VmS base p A m cs fs (sL gs 0 n cap) ls loc (sts.set i x) fl tr (set4At w gs (i*4) (iv x.k) (iv x.n) (bz x.t) xs):=by
 have hgs:=h.st.lt (k:=gs) rfl;have hnA:=h.ns gs rfl;have hs:∀{P:Nat->Prop},(¬P gs)->Since P w (set4At w gs (i*4) (iv x.k) (iv x.n) (bz x.t) xs):=fun {P} h=>Bi h _ _ _ _ _
 have hb:Below gs w (set4At w gs (i*4) (iv x.k) (iv x.n) (bz x.t) xs):=Ct (Below.refl _ _) (Nat.le_refl _) _ _ _ _ _;refine⟨h.mc.keep ?_,h.md.since (hs (fun hk=>hnA hk.1)),?_,h.lc.since (hs hnA),h.tb.mono (hb.mono (h.bs gs rfl)),h.bp,h.bs,h.bl,h.np,h.ns,h.sp,fun k hk=>h.hi k (Nat.le_trans hb.size hk)⟩
 ·exact (hs (P:=fun k=>k≠gs) (by simp)).block p (fun e=>h.sp (by rw[e];rfl)) h.mc.lt
 ·rw[<-Ea hi];exact h.st.set hi (At.2 ⟨xs,rfl,hx.base (fun k hk _=>⟨Or.inl hk,fun e=>hnA (e ▸ hk.1)⟩)⟩)
theorem VmO.enter(h:VmO base p A m cs fs ss sts fl tr w)(hb:Below w.heap.size w w')(hl:Gv A w' ls loc)(hn:∀k,ls.ownBlock=some k->w.heap.size<=k):VmS base p A m cs fs ss ls loc sts fl tr w':=by
 have hne:∀k,k<w.heap.size->ls.ownBlock≠some k:=fun k hk e=>by have:=hn k e;omega
 have hle:=h.le;exact⟨h.mc.below hb,(h.md.base (fun k hk hlt=>⟨hk,hne k hlt⟩)).below hb,(h.st.base (fun k hk hlt=>by
  rcases hk with hk | hk
  ·exact Or.inl ⟨hk,hne k hlt⟩
  ·exact Or.inr hk)).below hb,hl,h.tb.mono (hb.mono hle),h.bp,h.bs,fun k e=>by have:=hn k e;omega,h.np,h.ns,h.sp,fun k hk=>h.hi k (Nat.le_trans hb.size hk)⟩
theorem VmS.leave(h:VmS base p A m cs fs ss ls loc sts fl tr w):VmO base p A m cs fs ss sts fl tr w:=
 ⟨h.mc,h.md.base (fun k hk _=>hk.1),h.st.base (fun k hk _=>by
  rcases hk with hk | hk
  ·exact Or.inl hk.1
  ·exact Or.inr hk),h.tb,h.bp,h.bs,h.np,h.ns,h.sp,h.hi⟩
end
theorem Gv.get{P:Nat->Prop}{w:World}{ao:Option Addr}{n cap:Nat}{acc:List V}(h:Gv P w (.slice ao n cap) acc){i:Nat}{x:V}(hi:acc[i]?=some x):∃g ax cx,ao=some ⟨g,0,none⟩∧g<w.heap.size∧n=acc.length∧w.cell? ⟨g,i*4,none⟩=some (iv x.k)∧w.cell? ⟨g,i*4+1,none⟩=some (iv x.n)∧w.cell? ⟨g,i*4+2,none⟩=some (bz x.t)∧w.cell? ⟨g,i*4+3,none⟩=some (.slice ax x.l.length cx) ∧
  w.frozen? ⟨g,i*4,none⟩=false∧w.frozen? ⟨g,i*4+1,none⟩=false∧w.frozen? ⟨g,i*4+2,none⟩=false∧w.frozen? ⟨g,i*4+3,none⟩=false∧IsW (fun k=>P k∧(Value.slice ao n cap).ownBlock≠some k) w x (.slice ax x.l.length cx):=by
 have hlt:=(List.getElem?_eq_some_iff.1 hi).1;obtain⟨row,h1,h0,h2⟩:=h;obtain⟨cs,hc,hj⟩:=An.get h2 hi;obtain⟨sl,rfl,hw⟩:=At.1 hc;obtain⟨ax,cx,rfl,-,-⟩:=hw.vs.slice;rcases h1.2 with⟨e,h3⟩ | ⟨g,cap',cur,e,hb,hg,hn,hm,hsz,ht⟩
 ·omega
 ·simp only[Value.slice.injEq] at e;obtain⟨rfl,rfl,rfl⟩:=e;have hcell:∀j u,j<4->row[i*4+j]?=some u->w.cell? ⟨g,i*4+j,none⟩=some u:=fun j u h4 hu=>by
   rw[cell_block hg];rw[<-ht,List.getElem?_take] at hu;split at hu
   ·simpa using hu
   ·cases hu
  refine⟨g,ax,cx,rfl,(Array.getElem?_eq_some_iff.1 hg).1,rfl,hcell 0 _ (by omega) (by rw[hj 0 (by omega)];rfl),hcell 1 _ (by omega) (by rw[hj 1 (by omega)];rfl),hcell 2 _ (by omega) (by rw[hj 2 (by omega)];rfl),hcell 3 _ (by omega) (by rw[hj 3 (by omega)];rfl),A7 hg _,A7 hg _,A7 hg _,A7 hg _,hw⟩
theorem Qh{wq:World}{y0 y1 y2 y3:Value}{T:TypeId}{g:Nat}(hx:wq.heap[g]?=some (.cells #[y0,y1,y2,y3] T (0,0)))(x0 x1 x2 x3:Value):∃wN,(((wq.setCell ⟨g,0,none⟩ x0).setCell ⟨g,1,none⟩ x1).setCell ⟨g,2,none⟩ x2).setCell ⟨g,3,none⟩ x3=wN∧wN.heap[g]?=some (.cells #[x0,x1,x2,x3] T (0,0))∧Fr (fun k=>k≠g) wq wN∧wN.heap.size=wq.heap.size:=
 ⟨_,rfl,by simp[World.setCell,Array.getElem?_modify,hx],(((Fr.set (by simp) _ _).trans (Fr.set (by simp) _ _)).trans (Fr.set (by simp) _ _)).trans (Fr.set (by simp) _ _),by simp[World.setCell]⟩
def Ca(e:Int):List PanicEntry:=[{ v:=.iface 85 (.agg #[iv e]),recovered:=false }]
def Lm(p:Nat)(w:World)(cs fs ds ss:Value)(fl:Int):Prop:=w.heap[p]?=some (.cells #[cs,fs,ds,ss,iv fl] 62 (0,0))
theorem Lm.lt{p:Nat}{w:World}{cs fs ds ss:Value}{fl:Int}(h:Lm p w cs fs ds ss fl):p<w.heap.size:=(Array.getElem?_eq_some_iff.1 h).1
theorem Lm.keep{p:Nat}{w w':World}{cs fs ds ss:Value}{fl:Int}(h:Lm p w cs fs ds ss fl)(hb:w'.heap[p]?=w.heap[p]?):Lm p w' cs fs ds ss fl:=hb.trans h
theorem Lm.set{p:Nat}{w:World}{cs fs ds ss:Value}{fl:Int}(h:Lm p w cs fs ds ss fl)(e:Int):Lm p (w.setCell ⟨p,4,none⟩ (iv e)) cs fs ds ss e:=by
 unfold Lm at *;simp[World.setCell,Array.getElem?_modify,h]
def Lf(b p:Nat)(w:World)(ls ks:Value)(q:Int)(dn:Bool)(x:V)(xs:Value):Prop:=w.heap[b]?=some (.cells #[pt p 0,ls,ks,iv q,.bool dn,iv x.k,iv x.n,bz x.t,xs] 75 (0,0))
theorem Lf.lt{b p:Nat}{w:World}{ls ks:Value}{q:Int}{dn:Bool}{x:V}{xs:Value}(h:Lf b p w ls ks q dn x xs):b<w.heap.size:=(Array.getElem?_eq_some_iff.1 h).1
theorem Lf.keep{b p:Nat}{w w':World}{ls ks:Value}{q:Int}{dn:Bool}{x:V}{xs:Value}(h:Lf b p w ls ks q dn x xs)(hb:w'.heap[b]?=w.heap[b]?):Lf b p w' ls ks q dn x xs:=hb.trans h
theorem Lf.cells{b p:Nat}{w:World}{ls ks:Value}{q:Int}{dn:Bool}{x:V}{xs:Value}(h:Lf b p w ls ks q dn x xs):w.cell? ⟨b,0,none⟩=some (pt p 0)∧w.cell? ⟨b,1,none⟩=some ls∧w.cell? ⟨b,2,none⟩=some ks∧w.cell? ⟨b,3,none⟩=some (iv q)∧w.cell? ⟨b,4,none⟩=some (.bool dn):=by
 refine⟨?_,?_,?_,?_,?_⟩
 all_goals simp[World.cell?,show w.heap[b]?=_ from h]
theorem Lf.ans{b p:Nat}{w:World}{ls ks:Value}{q:Int}{dn:Bool}{x:V}{xs:Value}(h:Lf b p w ls ks q dn x xs):w.cell? ⟨b,5,none⟩=some (iv x.k)∧w.cell? ⟨b,6,none⟩=some (iv x.n)∧w.cell? ⟨b,7,none⟩=some (bz x.t)∧w.cell? ⟨b,8,none⟩=some xs:=by
 refine⟨?_,?_,?_,?_⟩
 all_goals simp[World.cell?,show w.heap[b]?=_ from h]
theorem Lf.open_{b p:Nat}{w:World}{ls ks:Value}{q:Int}{dn:Bool}{x:V}{xs:Value}(h:Lf b p w ls ks q dn x xs):∀j,w.frozen? ⟨b,j,none⟩=false:=fun j=>by simp[World.frozen?,show w.heap[b]?=_ from h]
theorem Lf.setK{b p:Nat}{w:World}{ls ks:Value}{q:Int}{dn:Bool}{x:V}{xs:Value}(h:Lf b p w ls ks q dn x xs)(ks':Value):Lf b p (w.setCell ⟨b,2,none⟩ ks') ls ks' q dn x xs:=by
 unfold Lf at *;simp[World.setCell,Array.getElem?_modify,h]
theorem Lf.setQ{b p:Nat}{w:World}{ls ks:Value}{q:Int}{dn:Bool}{x:V}{xs:Value}(h:Lf b p w ls ks q dn x xs)(q':Int):Lf b p (w.setCell ⟨b,3,none⟩ (iv q')) ls ks q' dn x xs:=by
 unfold Lf at *;simp[World.setCell,Array.getElem?_modify,h]
theorem Lf.setD{b p:Nat}{w:World}{ls ks:Value}{q:Int}{dn:Bool}{x:V}{xs:Value}(h:Lf b p w ls ks q dn x xs)(d:Bool):Lf b p (w.setCell ⟨b,4,none⟩ (.bool d)) ls ks q d x xs:=by
 unfold Lf at *;simp[World.setCell,Array.getElem?_modify,h]
theorem Lf.setA{b p:Nat}{w:World}{ls ks:Value}{q:Int}{dn:Bool}{x:V}{xs:Value}(h:Lf b p w ls ks q dn x xs)(y:V)(ys:Value):Lf b p (set4At w b 5 (iv y.k) (iv y.n) (bz y.t) ys) ls ks q dn y ys:=by
 unfold Lf at *;simp[set4At,World.setCell,Array.getElem?_modify,h]
def N2(g13 g16 g18 g19 g21:Nat):Array Value:=#[.nilFunc,.func (Fn.func 39) #[] #[],.func (Fn.func 41) #[] #[],.func (Fn.func 42) #[] #[],.func (Fn.func 44) #[] #[],.func (Fn.func 45) #[] #[],.func (Fn.func 46) #[] #[],.func (Fn.func 47) #[] #[],.func (Fn.func 48) #[] #[],.func (Fn.func 49) #[] #[],.func (Fn.func 50) #[] #[],.func (Fn.methodOf 72 "quern/vm.charge") #[] #[],.func (Fn.func 52) #[] #[],.func (Fn.func 84) #[] #[pt g13 0],.func (Fn.func 55) #[] #[],.func (Fn.func 56) #[] #[],.func (Fn.func 84) #[] #[pt g16 0],.func (Fn.func 58) #[] #[],.func (Fn.func 94) #[] #[pt g18 0],.func (Fn.func 94) #[] #[pt g19 0],.func (Fn.func 62) #[] #[],.func (Fn.func 94) #[] #[pt g21 0]]
def Dg(lo p:Nat)(ss ds:Value)(w:World):Prop:=∃gd g13 g16 g18 g19 g21:Nat,ds=sL gd 0 22 22∧w.heap[gd]?=some (.cells (N2 g13 g16 g18 g19 g21) 79 (0,0)) ∧
 w.heap[g13]?=some (.cells #[.func (Fn.func 54) #[] #[]] 81 (0,0))∧w.heap[g16]?=some (.cells #[.func (Fn.func 57) #[] #[]] 81 (0,0)) ∧
 w.heap[g18]?=some (.cells #[.func (Fn.func 60) #[] #[]] 83 (0,0))∧w.heap[g19]?=some (.cells #[.func (Fn.func 61) #[] #[]] 83 (0,0))∧w.heap[g21]?=some (.cells #[.func (Fn.func 63) #[] #[]] 83 (0,0)) ∧
 ∀k,k=gd∨k=g13∨k=g16∨k=g18∨k=g19∨k=g21->k<lo∧k≠p∧ss.ownBlock≠some k
theorem Dg.stay{lo p:Nat}{ss ds:Value}{w w':World}(h:Dg lo p ss ds w)(hf:∀k,k<lo->k≠p->ss.ownBlock≠some k->k<w.heap.size->w'.heap[k]?=w.heap[k]?):Dg lo p ss ds w':=by
 obtain⟨gd,g13,g16,g18,g19,g21,e,h0,h1,h2,h3,h4,h5,hk⟩:=h;have hx:∀{k:Nat} {o:Obj},w.heap[k]?=some o->(k=gd∨k=g13∨k=g16∨k=g18∨k=g19∨k=g21)->w'.heap[k]?=some o:=fun {k o} hh hm=>by
  obtain⟨a,b,c⟩:=hk k hm;rw[hf k a b c (Array.getElem?_eq_some_iff.1 hh).1];exact hh
 exact⟨gd,g13,g16,g18,g19,g21,e,hx h0 (by simp),hx h1 (by simp),hx h2 (by simp),hx h3 (by simp),hx h4 (by simp),hx h5 (by simp),hk⟩
structure En where
 base:Nat
 lo:Nat
 p:Nat
 b:Nat
 A:Nat->Prop
 m:Md
 cs:Value
 fs:Value
 ds:Value
 ss:Value
 ls:Value
abbrev Rw(P:Nat->Prop)(w:World)(sl:Value)(l:List V):Prop:=Gv (fun k=>P k∨sl.ownBlock=some k) w sl l
abbrev Fx(e:En)(w w':World):Prop:=Fr (fun k=>k<e.lo∧k≠e.p∧e.ss.ownBlock≠some k) w w'
structure LS(e:En)(P:Nat->Prop)(ks:Value)(loc stk sts:List V)(fl q:Int)(dn:Bool)(x:V)(xs:Value)(w:World):Prop where
 mc:Lm e.p w e.cs e.fs e.ds e.ss fl
 fr:Lf e.b e.p w e.ls ks q dn x xs
 md:IsMd P w e.m e.cs e.fs
 st:Rw P w e.ss sts
 lc:Rw P w e.ls loc
 sk:Rw P w ks stk
 tb:Cj e.base w
 dg:Dg e.lo e.p e.ss e.ds w
 bp:e.base<=e.p
 pl:e.p<e.lo
 bs:∀k,e.ss.ownBlock=some k->e.base<=k∧k<e.lo∧k≠e.p
 lb:e.lo<=e.b
 ll:∀k,e.ls.ownBlock=some k->e.lo<=k∧k≠e.b
 lk:∀k,ks.ownBlock=some k->e.lo<=k∧k≠e.b∧e.ls.ownBlock≠some k
 np:¬P e.p
 nb:¬P e.b
 ns:∀k,e.ss.ownBlock=some k->¬P k
 nl:∀k,e.ls.ownBlock=some k->¬P k
 nk:∀k,ks.ownBlock=some k->¬P k
 pa:∀k,P k->e.A k
 hi:∀k,w.heap.size<=k->P k
section
variable {e:En} {P:Nat->Prop} {ks:Value} {loc stk sts:List V} {fl q:Int} {dn:Bool} {x:V} {xs:Value} {w w':World}
theorem LS.le(h:LS e P ks loc stk sts fl q dn x xs w):e.base<=w.heap.size:=by have:=h.mc.lt;have:=h.bp;omega
theorem LS.since{g:Nat}(h:LS e P ks loc stk sts fl q dn x xs w)(hf:Fr (fun k=>k≠g) w w')(hg:¬P g){sl:Value}(hs:sl.ownBlock≠some g){l:List V}(hr:Rw P w sl l):Rw P w' sl l:=
 hr.since ⟨hf.size,fun k hk hl=>hf.block k (by
  rintro rfl;rcases hk with hk | hk
  ·exact hg hk
  ·exact hs hk) hl⟩
theorem LS.mdk{g:Nat}(h:LS e P ks loc stk sts fl q dn x xs w)(hf:Fr (fun k=>k≠g) w w')(hg:¬P g):IsMd P w' e.m e.cs e.fs:=h.md.since ⟨hf.size,fun k hk hl=>hf.block k (by rintro rfl;exact hg hk) hl⟩
theorem LS.tbk{g:Nat}(h:LS e P ks loc stk sts fl q dn x xs w)(hf:Fr (fun k=>k≠g) w w')(hg:e.base<=g):Cj e.base w':=h.tb.fr hf h.le (fun j hj=>by show j≠g;omega)
theorem LS.dgk{g:Nat}(h:LS e P ks loc stk sts fl q dn x xs w)(hf:Fr (fun k=>k≠g) w w')(hg:e.lo<=g∨g=e.p∨e.ss.ownBlock=some g):Dg e.lo e.p e.ss e.ds w':=h.dg.stay (fun k h1 h2 h3 h4=>hf.block k (by
 show k≠g;rintro rfl;rcases hg with hg | hg | hg
 ·omega
 ·exact h2 hg
 ·exact h3 hg) h4)
theorem LS.keep(h:LS e P ks loc stk sts fl q dn x xs w)(hb:Below w.heap.size w w'):LS e P ks loc stk sts fl q dn x xs w':=
 ⟨h.mc.keep (hb.block _ h.mc.lt),h.fr.keep (hb.block _ h.fr.lt),h.md.below hb,h.st.below hb,h.lc.below hb,h.sk.below hb,h.tb.mono (hb.mono h.le),h.dg.stay (fun k _ _ _ h4=>hb.block k h4),h.bp,h.pl,h.bs,h.lb,h.ll,h.lk,h.np,h.nb,h.ns,h.nl,h.nk,h.pa,fun k hk=>h.hi k (Nat.le_trans hb.size hk)⟩
theorem LS.fuel{fl':Int}(h:LS e P ks loc stk sts fl q dn x xs w)(hf:Fr (fun k=>k≠e.p) w w')(hm:Lm e.p w' e.cs e.fs e.ds e.ss fl'):LS e P ks loc stk sts fl' q dn x xs w':=by
 have hlb:=h.lb;have hpl:=h.pl;exact⟨hm,h.fr.keep (hf.block _ (by show _≠_;omega) h.fr.lt),h.mdk hf h.np,h.since hf h.np (fun e=>(h.bs _ e).2.2 rfl) h.st,h.since hf h.np (fun e=>by have:=(h.ll _ e).1;omega) h.lc,h.since hf h.np (fun e=>by have:=(h.lk _ e).1;omega) h.sk,h.tbk hf h.bp,h.dgk hf (Or.inr (Or.inl rfl)),h.bp,h.pl,h.bs,h.lb,h.ll,h.lk,h.np,h.nb,h.ns,h.nl,h.nk,h.pa,fun k hk=>h.hi k (Nat.le_trans hf.size hk)⟩
theorem LS.frame{q':Int}{dn':Bool}{x':V}{xs':Value}(h:LS e P ks loc stk sts fl q dn x xs w)(hf:Fr (fun k=>k≠e.b) w w')(hm:Lf e.b e.p w' e.ls ks q' dn' x' xs'):LS e P ks loc stk sts fl q' dn' x' xs' w':=by
 have hlb:=h.lb;have hpl:=h.pl;have hbp:=h.bp;exact⟨h.mc.keep (hf.block _ (by show _≠_;omega) h.mc.lt),hm,h.mdk hf h.nb,h.since hf h.nb (fun e=>by have:=(h.bs _ e).2.1;omega) h.st,h.since hf h.nb (fun e=>(h.ll _ e).2 rfl) h.lc,h.since hf h.nb (fun e=>(h.lk _ e).2.1 rfl) h.sk,h.tbk hf (by omega),h.dgk hf (Or.inl h.lb),h.bp,h.pl,h.bs,h.lb,h.ll,h.lk,h.np,h.nb,h.ns,h.nl,h.nk,h.pa,fun k hk=>h.hi k (Nat.le_trans hf.size hk)⟩
theorem Gv.cut{R:Nat->Prop}{a:Option Addr}{n c:Nat}{l:List V}(h:Gv R w (.slice a n c) l){j:Nat}(hj:j<=l.length):Gv R w (.slice a j c) (l.take j):=by
 obtain⟨row,h1,h2,h3⟩:=h;have e:(l.take j).length=j:=by simp;omega
 have hlen:=h3.len;refine⟨row.take (j*4),⟨by rw[e,List.length_take];omega,?_⟩,?_,?_⟩
 ·rcases h1.2 with⟨e0,h0⟩ | ⟨g,cap,cur,e0,k1,k2,k3,k4,k5,k6⟩
  ·simp only[Value.slice.injEq] at e0;obtain⟨rfl,_,rfl⟩:=e0;exact Or.inl ⟨by rw[show j=0 by omega],by rw[e];omega⟩
  ·simp only[Value.slice.injEq] at e0;obtain⟨rfl,_,rfl⟩:=e0;exact Or.inr ⟨g,c,cur,by rw[e],k1,k2,by rw[e];omega,k4,k5,by rw[e,<-k6,List.take_take];congr 1;omega⟩
 ·intro k hk;refine h2 k ?_;cases a
  ·simp[Value.ownBlock] at hk
  ·exact hk
 ·have h4:=(h3.len_take hj).1;exact h4.base (fun k hk _=>⟨hk.1,fun e'=>hk.2 (by
   cases a
   ·simp[Value.ownBlock] at e'
   ·exact e')⟩)
theorem Vy{a:Option Addr}{n m c:Nat}:(Value.slice a n c).ownBlock=(Value.slice a m c).ownBlock:=by cases a <;> rfl
theorem LS.cut{ak:Option Addr}{n ck:Nat}(h:LS e P (.slice ak n ck) loc stk sts fl q dn x xs w){j:Nat}(hj:j<=stk.length)(hf:Fr (fun k=>k≠e.b) w w')(hm:Lf e.b e.p w' e.ls (.slice ak j ck) q dn x xs):LS e P (.slice ak j ck) loc (stk.take j) sts fl q dn x xs w':=by
 have hlb:=h.lb;have hpl:=h.pl;have hbp:=h.bp;have ho:(Value.slice ak j ck).ownBlock=(Value.slice ak n ck).ownBlock:=Vy;have hc:Rw P w (.slice ak j ck) (stk.take j):=(h.sk.cut hj).base (fun k hk _=>by rw[ho];exact hk);exact⟨h.mc.keep (hf.block _ (by show _≠_;omega) h.mc.lt),hm,h.mdk hf h.nb,h.since hf h.nb (fun e=>by have:=(h.bs _ e).2.1;omega) h.st,h.since hf h.nb (fun e=>(h.ll _ e).2 rfl) h.lc,h.since hf h.nb (fun e=>(h.lk _ (ho ▸ e)).2.1 rfl) hc,h.tbk hf (by omega),h.dgk hf (Or.inl h.lb),h.bp,h.pl,h.bs,h.lb,h.ll,fun k hk=>h.lk k (ho ▸ hk),h.np,h.nb,h.ns,h.nl,fun k hk=>h.nk k (ho ▸ hk),h.pa,fun k hk=>h.hi k (Nat.le_trans hf.size hk)⟩
theorem LS.setL{gl n cap:Nat}(he:e.ls=sL gl 0 n cap)(h:LS e P ks loc stk sts fl q dn x xs w){i:Nat}(hi:i<loc.length){y:V}{ys:Value}(hy:IsW P w y ys):LS e P ks (loc.set i y) stk sts fl q dn x xs (set4At w gl (i*4) (iv y.k) (iv y.n) (bz y.t) ys):=by
 have hf:Fr (fun k=>k≠gl) w (set4At w gl (i*4) (iv y.k) (iv y.n) (bz y.t) ys):=(((Fr.set (by simp) _ _).trans (Fr.set (by simp) _ _)).trans (Fr.set (by simp) _ _)).trans (Fr.set (by simp) _ _);have ho:e.ls.ownBlock=some gl:=by rw[he];rfl
 obtain⟨l1,l2⟩:=h.ll _ ho;have hg:=h.nl _ ho;have hlb:=h.lb;have hpl:=h.pl;have hbp:=h.bp;refine⟨h.mc.keep (hf.block _ (by show _≠_;omega) h.mc.lt),h.fr.keep (hf.block _ (by show _≠_;omega) h.fr.lt),h.mdk hf hg,h.since hf hg (fun e=>by have:=(h.bs _ e).2.1;omega) h.st,?_,h.since hf hg (fun e=>(h.lk _ e).2.2 ho) h.sk,h.tbk hf (by omega),h.dgk hf (Or.inl l1),h.bp,h.pl,h.bs,h.lb,h.ll,h.lk,h.np,h.nb,h.ns,h.nl,h.nk,h.pa,fun k hk=>h.hi k (Nat.le_trans hf.size hk)⟩;have hlc:=h.lc;rw[he] at hlc ⊢;rw[<-Ea hi];exact hlc.set hi (At.2 ⟨ys,rfl,hy.base (fun k hk _=>⟨Or.inl hk,fun e=>hg (e ▸ hk)⟩)⟩)
theorem LS.setS{gl n cap:Nat}(he:e.ss=sL gl 0 n cap)(h:LS e P ks loc stk sts fl q dn x xs w){i:Nat}(hi:i<sts.length){y:V}{ys:Value}(hy:IsW P w y ys):LS e P ks loc stk (sts.set i y) fl q dn x xs (set4At w gl (i*4) (iv y.k) (iv y.n) (bz y.t) ys):=by
 have hf:Fr (fun k=>k≠gl) w (set4At w gl (i*4) (iv y.k) (iv y.n) (bz y.t) ys):=(((Fr.set (by simp) _ _).trans (Fr.set (by simp) _ _)).trans (Fr.set (by simp) _ _)).trans (Fr.set (by simp) _ _);have ho:e.ss.ownBlock=some gl:=by rw[he];rfl
 obtain⟨l0,l1,l2⟩:=h.bs _ ho;have hg:=h.ns _ ho;have hlb:=h.lb;have hpl:=h.pl;have hbp:=h.bp;refine⟨h.mc.keep (hf.block _ (by show _≠_;omega) h.mc.lt),h.fr.keep (hf.block _ (by show _≠_;omega) h.fr.lt),h.mdk hf hg,?_,h.since hf hg (fun e=>by have:=(h.ll _ e).1;omega) h.lc,h.since hf hg (fun e=>by have:=(h.lk _ e).1;omega) h.sk,h.tbk hf l0,h.dgk hf (Or.inr (Or.inr ho)),h.bp,h.pl,h.bs,h.lb,h.ll,h.lk,h.np,h.nb,h.ns,h.nl,h.nk,h.pa,fun k hk=>h.hi k (Nat.le_trans hf.size hk)⟩;have hlc:=h.st;rw[he] at hlc ⊢;rw[<-Ea hi];exact hlc.set hi (At.2 ⟨ys,rfl,hy.base (fun k hk _=>⟨Or.inl hk,fun e=>hg (e ▸ hk)⟩)⟩)
theorem LS.grown{P':Nat->Prop}{ks':Value}{stk':List V}(h:LS e P ks loc stk sts fl q dn x xs w)(hf:Fr (fun k=>ks.ownBlock≠some k∧k≠e.b) w w')(hl:Lf e.b e.p w' e.ls ks' q dn x xs)(hP:∀k,P' k->P k)(hP2:∀k,P k->k<w.heap.size->P' k)(hk:Rw P' w' ks' stk')(hn:∀k,ks'.ownBlock=some k->¬P' k∧(ks.ownBlock=some k∨w.heap.size<=k))(hi:∀k,w'.heap.size<=k->P' k):LS e P' ks' loc stk' sts fl q dn x xs w':=by
 have hlb:=h.lb;have hpl:=h.pl;have hbp:=h.bp;have hbl:=h.fr.lt;have hs:∀{R:Nat->Prop},(∀k,R k->k<w.heap.size->ks.ownBlock≠some k∧k≠e.b)->Since R w w':=fun {R} hR=>⟨hf.size,fun k hk hl=>hf.block k (hR k hk hl) hl⟩
 have hPk:∀k,P k->ks.ownBlock≠some k∧k≠e.b:=fun k hk=>⟨fun e=>h.nk k e hk,fun e=>h.nb (e ▸ hk)⟩
 have hrow:∀{sl:Value} {l:List V},Rw P w sl l->(∀k,sl.ownBlock=some k->ks.ownBlock≠some k∧k≠e.b)->Rw P' w' sl l:=fun {sl l} hr ho=>(hr.base (P':=fun k=>P' k∨sl.ownBlock=some k) (fun k hk hl=>by
  rcases hk with hk | hk
  ·exact Or.inl (hP2 k hk hl)
  ·exact Or.inr hk)).since (hs (fun k hk _=>by
  rcases hk with hk | hk
  ·exact hPk k (hP k hk)
  ·exact ho k hk))
 refine⟨h.mc.keep (hf.block _ ⟨fun e=>by have:=(h.lk _ e).1;omega,by omega⟩ h.mc.lt),hl,(h.md.base hP2).since (hs (fun k hk _=>hPk k (hP k hk))),hrow h.st (fun k e1=>⟨fun e2=>by have:=(h.bs _ e1).2.1;have:=(h.lk _ e2).1;omega,by have:=(h.bs _ e1).2.1;omega⟩),hrow h.lc (fun k e1=>⟨fun e2=>(h.lk _ e2).2.2 e1,(h.ll _ e1).2⟩),hk,h.tb.fr hf h.le (fun j hj=>⟨fun e=>by have:=(h.lk _ e).1;omega,by omega⟩),h.dg.stay (fun k h1 h2 h3 h4=>hf.block k ⟨fun e=>by have:=(h.lk _ e).1;omega,by omega⟩ h4),h.bp,h.pl,h.bs,h.lb,h.ll,?_,fun hk=>h.np (hP _ hk),fun hk=>h.nb (hP _ hk),fun k e hk=>h.ns k e (hP _ hk),fun k e hk=>h.nl k e (hP _ hk),fun k e=>(hn k e).1,fun k hk=>h.pa k (hP k hk),hi⟩;intro k e1;rcases (hn k e1).2 with e2 | e2
 ·exact h.lk k e2
 ·have hll:∀j,e.ls.ownBlock=some j->j<w.heap.size:=fun j e=>(h.lc.lt e).2
  exact⟨by omega,by omega,fun e3=>by have:=hll k e3;omega⟩
end
end
end Go.Proofs.YtnijcolomoobnaaGreatDoor
