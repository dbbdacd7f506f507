/- Texts of ours, joined. -/
import Derived.Test.YtpckmjfabiallaaGreatDoorH03
import Derived.Deep.CutRange
set_option linter.unusedVariables false
set_option linter.unusedSimpArgs false
set_option maxRecDepth 100000
set_option maxHeartbeats 16000000
namespace Go.Proofs.YtpckmjfabiallaaGreatDoor
variable{v:Value}{w:World}
open List
section
theorem Io:∀(N:Nat) (l:AQ) (o:Nat) (acc:AQ) (a er:Nat),l.length<=N->Lx.quoteR l o acc=Lx.R.bad a er->a<=o+l.length
 | N,[],o,acc,a,er,_,h=>by simp[Lx.quoteR,Lx.R.bad] at h;omega
 | 0,c :: r,o,acc,a,er,hN,h=>by simp at hN
 | N+1,c :: r,o,acc,a,er,hN,h=>by
  rw[A8] at h;simp only[length_cons] at hN ⊢;split at h
  .split at h
   .simp[Lx.R.ok,Lx.R.bad] at h
   .simp[Lx.R.bad] at h;omega
  .split at h
   .split at h
    .simp[Lx.R.bad] at h;omega
    .split at h
     .rename_i d r' _;have:=Io N r' (o+2) _ a er (by simp at hN;omega) h;simp only[length_cons];omega
     .simp[Lx.R.bad] at h;omega
   .split at h
    .have:=Io N r (o+1) _ a er (by omega) h;omega
    .simp[Lx.R.bad] at h;omega
theorem Aj5{dot:Bool}{l:AQ}{a er:Nat}(h:Lx.tokR dot l=Lx.R.bad a er):a<=l.length:=by
 match l,h with
 | [],h=>simp[Lx.tokR,Lx.R.ok,Lx.R.bad] at h
 | c :: r,h=>
  simp only[Lx.tokR] at h;split at h
  .unfold Lx.nameR at h;split at h
   .simp[Lx.R.ok,Lx.R.bad] at h
   .simp[Lx.R.bad] at h;omega
  .split at h
   .unfold Lx.numberR at h;split at h
    .simp[Lx.R.bad] at h;omega
    .split at h
     .simp[Lx.R.ok,Lx.R.bad] at h
     .simp[Lx.R.bad] at h;omega
   .split at h
    .have:=Io r.length r 1 [] a er (AD _) h;simp only[length_cons];omega
    .unfold Lx.markR at h;split at h
     .simp[Lx.R.bad] at h;omega
     .simp[Lx.R.ok,Lx.R.bad] at h
theorem Q9(dot:Bool):∀(f:Nat) (l:AQ) (i c a er:Nat),l.length<f->Lx.lexF dot f l i c=.inr (a,er)->a<=i+l.length
 | 0,l,i,c,a,er,hf,h=>by omega
 | f+1,l,i,c,a,er,hf,h=>by
  have hk:=Lx.skip_le false l;simp only[Lx.lexF] at h;split at h
  .split at h
   .simp at h
   .simp at h;omega
  .rename_i x r hd;have hl:=congrArg List.length hd;simp at hl;split at h
   .rename_i o e ht;simp at h;have:=Aj5 ht;simp only[length_cons] at this;omega
   .rename_i k t m n ht;have a0:=B7 ht;split at h
    .rcases hg:Lx.lexF dot f (r.drop (n - 1)) (i+Lx.skipF false l+n) (c+1) with ts | ⟨a',e'⟩
     .rw[hg] at h;simp[Lx.Out.pre] at h
     .rw[hg] at h;simp[Lx.Out.pre] at h;have:=Q9 dot f _ _ _ a' e' (by simp;omega) hg;simp only[length_drop] at this;omega
    .simp at h;omega
theorem Aj6{dot:Bool}{l:AQ}{a er:Nat}(h:Lx.lex dot l=.inr (a,er)):a<=l.length:=by
 unfold Lx.lex at h;split at h
 .simp at h;omega
 .have:=Q9 dot _ l 0 0 a er (Nat.lt_succ_self _) h;omega
end
section
open Go.RowKit
abbrev Am4(k o n:Nat)(t:Lx.B)(sl:Value)(p:Nat):Obj:=.cells #[iv k,iv o,iv n,.string ⟨t.toArray⟩,iv 0,sE,sl,iv p] 48
abbrev boxes(w:World)(k o n:Nat)(t:Lx.B)(ao:Option Addr)(len cap p:Nat)(ao':Option Addr)(cap' p':Nat):World:=(w.alloc (Am4 k o n t (.slice ao len cap) p)).alloc (Am4 k o n t (.slice ao' len cap') p')
theorem Dv.slice{B:AS}{l:List Px.Sl}(h:Dv B w l v):∃ao cap,v=.slice ao l.length cap:=by
 obtain⟨ao,cap,e,_⟩:=SlRow.slice h;exact⟨ao,cap,e⟩
end
end Go.Proofs.YtpckmjfabiallaaGreatDoor
