/- Texts of ours, joined. -/
import Derived.Test.YtpckmjfabiallaaGreatDoorG07
set_option linter.unusedVariables false
set_option linter.unusedSimpArgs false
set_option maxRecDepth 100000
set_option maxHeartbeats 16000000
namespace Go.Proofs.YtpckmjfabiallaaGreatDoor
open List
section
namespace Px
open Lx (Tok B)
mutual
def O1(N:Nat):Ex->Prop
 | .mk k o n t args p=>args.length<=N/\Io N args
def Io(N:Nat):List Ex->Prop
 | []=>True
 | e :: r=>O1 N e/\Io N r
end
mutual
def To(N:Nat):St->Prop
 | .mk k n es b c p=>(∀e∈es,O1 N e)/\b.length<=N/\c.length<=N/\Gu N b/\Gu N c
def Gu(N:Nat):List St->Prop
 | []=>True
 | s :: r=>To N s/\Gu N r
end
theorem J8:∀l:List (List Tok),(∀a∈l,1<=a.length)->l.length<=(Ap l).length/\∀a∈l,a.length<=(Ap l).length
 | [],_=>⟨by simp[Ap],λ a ha=>by cases ha⟩
 | [a],h=>⟨by have:=h a (by simp);simp[Ap];omega,λ x hx=>by simp at hx;subst hx;simp[Ap]⟩
 | a :: b :: r,h=>by
  have ih:=J8 (b :: r) (λ x hx=>h x (AH _ hx));have h1:=h a (by simp);have e:(Ap (a :: b :: r)).length=a.length+1+(Ap (b :: r)).length:=by simp[Ap];omega
  refine⟨by rw[e];simp at ih ⊢;omega,λ x hx=>?_⟩;rw[e];rcases mem_cons.1 hx with rfl | hx
  .omega
  .have:=ih.2 x hx;omega
theorem Hh(b:Bool)(l:List Tok):l.length<=(within b l).length:=by
 unfold within;split
 .simp;omega
 .exact AD _
theorem Fh(e:Ex):1<=(exT e).length:=by
 obtain⟨k,o,n,t,args,p⟩:=e;rw[exT];unfold exK
 repeat' split
 all_goals simp
 all_goals omega
theorem O2:∀l:List Ex,(exTs l).length=l.length
 | []=>rfl
 | e :: r=>by simp[exTs,O2 r]
theorem O3:∀{l:List Ex} {e:Ex},e∈l->exT e∈exTs l
 | a :: r,e,h=>by
  rw[exTs];rcases mem_cons.1 h with rfl | h
  .exact AC ..
  .exact AH _ (O3 h)
theorem O4:∀{l:List Ex} {a:List Tok},a∈exTs l->∃e∈l,exT e=a
 | x :: r,a,h=>by
  rw[exTs] at h;rcases mem_cons.1 h with rfl | h
  .exact⟨x,AC ..,rfl⟩
  .obtain⟨e,h1,h2⟩:=O4 h;exact⟨e,AH _ h1,h2⟩
mutual
theorem Tp{V:Nat->B->Nat->Prop}{N:Nat}:∀e:Ex,WfE V e->(exT e).length<=N->O1 N e
 | .mk k o n t args p,hw,hN=>by
  rw[WfE] at hw;obtain⟨hf,ha⟩:=hw;have a0:args.length<=N/\∀x∈args,(exT x).length<=N:=by
   rw[exT] at hN;rcases hf with⟨-,-,-,hl,-⟩ | ⟨-,-,-,hl,-⟩ | ⟨-,-,-,hl,-⟩ | ⟨-,-,-,hl,-⟩ | ⟨rfl,-⟩ | ⟨rfl,-,-,-,hl⟩ | ⟨hk,-,-,-,hl⟩ | ⟨rfl,-,-,-,-,hl⟩
   .have:args=[]:=length_eq_zero_iff.1 hl;subst this;exact⟨AO _,λ x hx=>by cases hx⟩
   .have:args=[]:=length_eq_zero_iff.1 hl;subst this;exact⟨AO _,λ x hx=>by cases hx⟩
   .have:args=[]:=length_eq_zero_iff.1 hl;subst this;exact⟨AO _,λ x hx=>by cases hx⟩
   .have:args=[]:=length_eq_zero_iff.1 hl;subst this;exact⟨AO _,λ x hx=>by cases hx⟩
   .have h1:=J8 (exTs args) (λ a h=>by
     obtain⟨e,-,rfl⟩:=O4 h;exact Fh e)
    simp[exK] at hN;rw[O2] at h1;exact⟨by omega,λ x hx=>by have:=h1.2 _ (O3 hx);omega⟩
   .obtain⟨x,y,rfl⟩:∃x y,args=[x,y]:=by
     match args,hl with
     | [x,y],_=>exact⟨x,y,rfl⟩
    have h0:=Hh (lowE 7 (([x,y]:List Ex).getD 0 default)) ((exTs [x,y]).getD 0 []);simp[exK,exTs] at hN h0;have:=Fh x;have:=Fh y;refine⟨by simp;omega,λ z hz=>?_⟩;simp at hz;rcases hz with rfl | rfl
    .omega
    .omega
   .obtain⟨x,rfl⟩:=length_eq_one_iff.1 hl;have h0:=Hh (lowE 6 (([x]:List Ex).getD 0 default)) ((exTs [x]).getD 0 []);have:=Fh x;have a3:1+(exT x).length<=N:=by
     rcases hk with rfl | rfl
     .simp[exK,exTs] at hN h0;omega
     .simp[exK,exTs] at hN h0;omega
    refine⟨by simp;omega,λ z hz=>?_⟩;simp at hz;subst hz;omega
   .obtain⟨x,y,rfl⟩:∃x y,args=[x,y]:=by
     match args,hl with
     | [x,y],_=>exact⟨x,y,rfl⟩
    have h0:=Hh (lowE (lv o) (([x,y]:List Ex).getD 0 default)) ((exTs [x,y]).getD 0 []);have h1:=Hh (lowE (opL o+1) (([x,y]:List Ex).getD 1 default)) ((exTs [x,y]).getD 1 []);simp[exK,exTs] at hN h0 h1;have:=Fh x;have:=Fh y;refine⟨by simp;omega,λ z hz=>?_⟩;simp at hz;rcases hz with rfl | rfl
    .omega
    .omega
  rw[O1];exact⟨a0.1,O5 args ha a0.2⟩
theorem O5{V:Nat->B->Nat->Prop}{N:Nat}:∀l:List Ex,WfEs V l->(∀x∈l,(exT x).length<=N)->Io N l
 | [],_,_=>by rw[Io];trivial
 | e :: r,hw,hN=>by
  rw[WfEs] at hw;rw[Io];exact⟨Tp e hw.1 (hN e (AC ..)),O5 r hw.2 (λ x hx=>hN x (AH _ hx))⟩
end
theorem Al5(s:St):1<=(stT s).length:=by
 obtain⟨k,n,es,b,c,p⟩:=s;rw[stT];unfold stK
 repeat' split
 all_goals simp
theorem stsT_le:∀l:List St,l.length<=(stsT l).length/\∀s∈l,(stT s).length<=(stsT l).length
 | []=>⟨by simp,λ s hs=>by cases hs⟩
 | s :: r=>by
  have ih:=stsT_le r;have:=Al5 s;rw[stsT];refine⟨by simp;omega,λ x hx=>?_⟩;rw[length_append];rcases mem_cons.1 hx with rfl | hx
  .omega
  .have:=ih.2 x hx;omega
mutual
theorem Al6{V:Nat->B->Nat->Prop}{N:Nat}:∀s:St,WfS V s->(stT s).length<=N->To N s
 | .mk k n es b c p,hw,hN=>by
  rw[WfS] at hw;obtain⟨hf,he,hb,hc⟩:=hw;have a0:(∀e∈es,(exT e).length<=N)/\(stsT b).length<=N/\(stsT c).length<=N:=by
   rw[stT] at hN;rcases hf with⟨rfl,-,hl,rfl,rfl⟩ | ⟨rfl,-,hl,rfl,rfl⟩ | ⟨rfl,-,hl,rfl,rfl⟩ | ⟨rfl,-,hl⟩ | ⟨rfl,-,hl,rfl⟩ | ⟨rfl,-,hl,rfl,rfl⟩
   .obtain⟨x,rfl⟩:=length_eq_one_iff.1 hl;simp[stK] at hN;exact⟨λ e he=>(by simp at he;subst he;omega),(by simp[stsT]),(by simp[stsT])⟩
   .rcases hl with hl | hl
    .obtain⟨x,rfl⟩:=length_eq_one_iff.1 hl;simp[stK] at hN;exact⟨λ e he=>(by simp at he;subst he;omega),(by simp[stsT]),(by simp[stsT])⟩
    .obtain⟨x,y,rfl⟩:∃x y,es=[x,y]:=by
      match es,hl with
      | [x,y],_=>exact⟨x,y,rfl⟩
     simp[stK] at hN;exact⟨λ e he=>(by simp at he;rcases he with rfl | rfl <;> omega),(by simp[stsT]),(by simp[stsT])⟩
   .obtain⟨x,rfl⟩:=length_eq_one_iff.1 hl;simp[stK] at hN;exact⟨λ e he=>(by simp at he;subst he;omega),(by simp[stsT]),(by simp[stsT])⟩
   .obtain⟨x,rfl⟩:=length_eq_one_iff.1 hl;rcases c with _ | ⟨c1,c2⟩
    .simp[stK,blk] at hN;exact⟨λ e he=>(by simp at he;subst he;omega),(by omega),(by simp[stsT])⟩
    .simp[stK,blk] at hN;exact⟨λ e he=>(by simp at he;subst he;omega),(by omega),(by omega)⟩
   .obtain⟨x,rfl⟩:=length_eq_one_iff.1 hl;simp[stK,blk] at hN;exact⟨λ e he=>(by simp at he;subst he;omega),(by omega),(by simp[stsT])⟩
   .obtain⟨x,rfl⟩:=length_eq_one_iff.1 hl;simp[stK] at hN;exact⟨λ e he=>(by simp at he;subst he;omega),(by simp[stsT]),(by simp[stsT])⟩
  have a4:=(stsT_le b).1;have a3:=(stsT_le c).1;rw[To];exact⟨λ e h=>Tp e (he e h) (a0.1 e h),by omega,by omega,stmles_of b hb a0.2.1,stmles_of c hc a0.2.2⟩
theorem stmles_of{V:Nat->B->Nat->Prop}{N:Nat}:∀l:List St,Cs V l->(stsT l).length<=N->Gu N l
 | [],_,_=>by rw[Gu];trivial
 | s :: r,hw,hN=>by
  rw[Cs] at hw;rw[stsT,length_append] at hN;rw[Gu];exact⟨Al6 s hw.1 (by omega),stmles_of r hw.2 (by omega)⟩
end
theorem ssT_le:∀l:List Sl,l.length<=(ssT l).length
 | []=>by simp
 | s :: r=>by
  have:=ssT_le r;simp[ssT];omega
theorem fsT_le:∀l:List Fn,l.length<=(fsT l).length
 | []=>by simp
 | s :: r=>by
  have:=fsT_le r;simp[fsT];omega
theorem As6(s:Sl):1<=(slT s).length:=by simp[slT]
theorem fnT_le(f:Fn):f.params.length<=(fnT f).length/\(stsT f.body).length<=(fnT f).length:=by
 have h:=(J8 (f.params.map slT) (λ a h=>by
  obtain⟨s,-,rfl⟩:=mem_map.1 h;exact As6 s)).1
 rw[length_map] at h;simp[fnT,blk];omega
end Px
end
end Go.Proofs.YtpckmjfabiallaaGreatDoor
