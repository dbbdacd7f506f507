/- Texts of ours, joined. -/
import Derived.Test.YtpckmjfabiallaaGreatDoorI01
set_option linter.unusedVariables false
set_option linter.unusedSimpArgs false
set_option maxRecDepth 100000
set_option maxHeartbeats 16000000
namespace Go.Proofs.YtpckmjfabiallaaGreatDoor
open List
section
namespace Ck
open Lx (B)
open Px (Ex St Sl Pr)
def Sim{α:Type}:R α->R α->Prop
 | .inl x,.inl y=>x=y
 | .inr a,.inr b=>a.2=b.2
 | _,_=>False
theorem Sim.refl{α:Type}(r:R α):Sim r r:=by cases r <;> rfl
theorem Sim.bind{α β:Type}{a b:R α}{f g:α->R β}(h:Sim a b)(k:∀x,Sim (f x) (g x)):Sim (Ck.bind a f) (Ck.bind b g):=by
 cases a <;> cases b
 .rename_i x y;have e:x=y:=h;subst e;exact k x
 .exact h.elim
 .exact h.elim
 .exact h
theorem An(b:Bool)(p q e:Nat):Sim (Ck.need b p e) (Ck.need b q e):=by cases b <;> rfl
def Dr(q q':Q):Prop:=Sim q.1 q'.1
def Ev:List Q->List Q->Prop
 | [],[]=>True
 | a :: l,b :: m=>Dr a b/\Ev l m
 | _,_=>False
theorem Ev.len:∀{l m:List Q},Ev l m->l.length=m.length
 | [],[],_=>rfl
 | a :: l,b :: m,h=>by simp[Ev.len h.2]
 | [],_ :: _,h=>h.elim
 | _ :: _,[],h=>h.elim
theorem Ev.arg:∀{l m:List Q} (i:Nat),Ev l m->Dr (Ck.arg l i) (Ck.arg m i)
 | [],[],i,_=>Sim.refl _
 | a :: l,b :: m,0,h=>h.1
 | a :: l,b :: m,i+1,h=>by
  have:=Ev.arg i h.2;simpa [Ck.arg] using this
 | [],_ :: _,_,h=>h.elim
 | _ :: _,[],_,h=>h.elim
theorem Dr.asked{q q':Q}(h:Dr q q')(t:B):Sim (Ck.asked q t) (Ck.asked q' t):=
 Sim.bind h λ x=>Sim.bind (An _ _ _ _) λ _=>rfl
theorem Ev.all:∀{l m:List Q} (ts:List B),Ev l m->Sim (Ck.all l ts) (Ck.all m ts)
 | [],[],ts,_=>Sim.refl _
 | a :: l,b :: m,[],h=>by simp[Ck.all,Sim]
 | a :: l,b :: m,t :: ts,h=>by
  simp only[Ck.all];exact (Dr.asked h.1 t).bind λ x=>(Ev.all ts h.2).bind λ xs=>rfl
 | [],_ :: _,_,h=>h.elim
 | _ :: _,[],_,h=>h.elim
theorem Sf(c:Cx)(k o n:Nat)(t:B)(p q:Nat){l m:List Q}(h:Ev l m):Sim (Ck.comb c k o n t p l) (Ck.comb c k o n t q m):=by
 unfold Ck.comb
 repeat' split
 .rfl
 .rfl
 .rfl
 .exact (An _ _ _ _).bind λ _=>rfl
 .unfold Ck.call;refine (An _ _ _ _).bind λ _=>(An _ _ _ _).bind λ _=>?_
  rw[h.len];exact (An _ _ _ _).bind λ _=>(h.all _).bind λ xs=>rfl
 .unfold Ck.builtin;simp only[h.len];refine (An _ _ _ _).bind λ _=>(h.arg 0).bind λ x=>(An _ _ _ _).bind λ _=>?_
  split
  .exact (Dr.asked (h.arg 1) _).bind λ y=>rfl
  .rfl
 .exact (h.arg 0).bind λ x=>(An _ _ _ _).bind λ _=>(Dr.asked (h.arg 1) _).bind λ y=>rfl
 .exact (Dr.asked (h.arg 0) _).bind λ x=>rfl
 .exact (Dr.asked (h.arg 0) _).bind λ x=>rfl
 .exact (h.arg 0).bind λ x=>(h.arg 1).bind λ y=>(An _ _ _ _).bind λ _=>rfl
mutual
theorem Bd0(c:Cx):∀x:Ex,Sim (cE c x) (cE c x.er)
 | .mk k o n t args p=>by
  rw[Px.Ex.er,cE,cE];exact Sf c k o n t p 0 (P1 c args)
theorem P1(c:Cx):∀l:List Ex,Ev (cEs c l) (cEs c (Px.ersE l))
 | []=>by rw[Px.ersE,cEs];trivial
 | .mk k o n t args p :: r=>by
  rw[Px.ersE,Px.Ex.er,cEs,cEs];refine⟨?_,P1 c r⟩;show Sim (cE c _) (cE c _);rw[cE,cE];exact Sf c k o n t p 0 (P1 c args)
end
theorem Ag0(l:List Ex):(Px.ersE l).length=l.length:=by rw[Px.ersE_map,length_map]
theorem P2(env:Env)(ls:List B)(n:B)(p q kind:Nat)(t:B):Sim (Ck.loc env ls n p kind t) (Ck.loc env ls n q kind t):=
 ((An _ _ _ _).bind λ _=>rfl:Sim (Ck.note env n p _) (Ck.note env n q _)).bind λ e=>(An _ _ _ _).bind λ _=>rfl
theorem Lu(env:Env)(n:B)(p q:Nat):Sim (Ck.targ env n p) (Ck.targ env n q):=(An _ _ _ _).bind λ _=>(An _ _ _ _).bind λ _=>rfl
mutual
theorem Ba3(k:Kx)(env:Env)(ls:List B):∀s:St,Sim (cS k env ls s) (cS k env ls s.er)
 | .mk kind n es body other p=>by
  have h:=P1 (k.at env) es;rw[Px.St.er,cS,cS];simp only[Ag0]
  repeat' split
  .exact (h.arg 0).bind λ x=>(P2 _ _ _ _ _ _ _).bind λ e=>rfl
  .exact (Lu _ _ _ _).bind λ m=>(Dr.asked (h.arg 0) _).bind λ x=>rfl
  .exact (Lu _ _ _ _).bind λ m=>(An _ _ _ _).bind λ _=>(Dr.asked (h.arg 0) _).bind λ x=>(Dr.asked (h.arg 1) _).bind λ y=>rfl
  .exact (Lu _ _ _ _).bind λ m=>(An _ _ _ _).bind λ _=>(Dr.asked (h.arg 0) _).bind λ x=>rfl
  .exact (Dr.asked (h.arg 0) _).bind λ x=>(Lv k env ls body).bind λ a=>(Lv k env a.2.2 other).bind λ b=>rfl
  .exact (Dr.asked (h.arg 0) _).bind λ x=>(P2 _ _ _ _ _ _ _).bind λ e=>(Lv k e.1 e.2 body).bind λ a=>rfl
  .exact (Dr.asked (h.arg 0) _).bind λ x=>rfl
theorem Lv(k:Kx)(env:Env)(ls:List B):∀l:List St,Sim (cSs k env ls l) (cSs k env ls (Px.ersS l))
 | []=>by rw[Px.ersS];exact Sim.refl _
 | s :: r=>by
  rw[Px.ersS,cSs,cSs];exact (Ba3 k env ls s).bind λ a=>(Lv k a.2.1 a.2.2 r).bind λ b=>rfl
end
theorem Ob:∀(l:List Sl) (env:Env) (i:Nat),Sim (Ck.states env i l) (Ck.states env i (l.map Px.Sl.er))
 | [],env,i=>Sim.refl _
 | s :: r,env,i=>by
  simp only[map_cons,Ck.states];exact (An _ _ _ _).bind λ _=>Sim.bind ((An _ _ _ _).bind λ _=>rfl) λ e=>Ob r e (i+1)
theorem Oc:∀(l:List Sl) (i:Nat),Sim (Ck.params i l) (Ck.params i (l.map Px.Sl.er))
 | [],i=>Sim.refl _
 | s :: r,i=>by
  simp only[map_cons,Ck.params];exact (An _ _ _ _).bind λ _=>Oc r (i+1)
theorem Ag1:∀(l:List Px.Fn) (env:Env) (i:Nat),Sim (Ck.fns env i l) (Ck.fns env i (l.map Px.Fn.er))
 | [],env,i=>Sim.refl _
 | f :: r,env,i=>by
  simp only[map_cons,Ck.fns];exact (An _ _ _ _).bind λ _=>Sim.bind ((An _ _ _ _).bind λ _=>rfl) λ e=>(Oc f.params 0).bind λ _=>Ag1 r e (i+1)
theorem Wv:∀(l:List Sl) (env:Env) (ls:List B),Sim (Ck.locs env ls l) (Ck.locs env ls (l.map Px.Sl.er))
 | [],env,ls=>Sim.refl _
 | s :: r,env,ls=>by
  simp only[map_cons,Ck.locs];exact (P2 _ _ _ _ _ _ _).bind λ e=>Wv r e.1 e.2
theorem Sg(l:List Sl):Ck.slots (l.map Px.Sl.er)=Ck.slots l:=by
 unfold Ck.slots;rw[map_map];rfl
theorem Ba4(f:Px.Fn):Ck.hd f.er=Ck.hd f:=by
 unfold Ck.hd Px.Fn.er;simp only[map_map];rfl
theorem Ba5(hs:List Hd)(env:Env)(i:Nat)(f:Px.Fn):Sim (Ck.fn hs env i f) (Ck.fn hs env i f.er):=by
 unfold Ck.fn;refine (Wv f.params env []).bind λ e=>(Lv _ e.1 e.2 f.body).bind λ a=>?_
 show _=_;congr 1;exact (Sg f.params).symm
theorem Od(hs:List Hd)(env:Env):∀(l:List Px.Fn) (i:Nat),Sim (Ck.bodies hs env i l) (Ck.bodies hs env i (l.map Px.Fn.er))
 | [],i=>Sim.refl _
 | f :: r,i=>by
  simp only[map_cons,Ck.bodies];exact (Ba5 hs env i f).bind λ x=>(Od hs env r (i+1)).bind λ xs=>rfl
theorem Ag2(p:Pr):Sim (Ck.check p) (Ck.check p.er):=by
 unfold Ck.check;refine (An _ _ _ _).bind λ _=>(Ob p.states [] 0).bind λ e1=>(Ag1 p.fns e1 0).bind λ e2=>?_
 have h:p.er.fns.map Ck.hd=p.fns.map Ck.hd:=by
  show (p.fns.map Px.Fn.er).map Ck.hd=_;rw[map_map];exact map_congr_left λ f _=>Ba4 f
 rw[h];refine (Od _ e2 p.fns 0).bind λ fs=>?_
 show _=_;congr 1;exact (Sg p.states).symm
end Ck
end
end Go.Proofs.YtpckmjfabiallaaGreatDoor
