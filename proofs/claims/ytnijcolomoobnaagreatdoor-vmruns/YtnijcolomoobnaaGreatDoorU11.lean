/- Texts of ours, joined. -/
import Derived.Test.YtnijcolomoobnaaGreatDoorU04
import Derived.Test.YtnijcolomoobnaaGreatDoorU05
set_option linter.unusedVariables false
set_option linter.unusedSimpArgs false
set_option maxRecDepth 100000
set_option maxHeartbeats 16000000
namespace Go.Proofs.YtnijcolomoobnaaGreatDoor
section
theorem Ei(op:Int):0<=psh op∧psh op<=1:=by unfold psh;split <;> omega
def Nd(fs:List Fu)(f:Fu)(hs:List Int)(p:Nat):Prop:=∃i x,f.code[p]?=some i∧hs[p]?=some x∧0<=x∧0<=x - popN fs i∧hgt fs i x<=f.stack∧∀q∈nxt p i,hs[q]?=some (hgt fs i x)
structure HInv(fs:List Fu)(f:Fu)(hs:List Int)(sn:List Bool):Prop where
 hl:hs.length=f.code.length
 sl:sn.length=f.code.length
 zero:hs[0]?=some 0
 low:∀(p:Nat) (x:Int),hs[p]?=some x->-1<=x∧x<=256
 seen:∀(p:Nat),sn[p]?=some true->Nd fs f hs p
 sub:∀H,Lab fs f H->∀(p:Nat) (x:Int),hs[p]?=some x->0<=x->H p=some x
structure HPart(fs:List Fu)(f:Fu)(at_:Nat)(i:In)(x0:Int)(k:Nat)(hs:List Int)(sn:List Bool):Prop where
 hl:hs.length=f.code.length
 sl:sn.length=f.code.length
 zero:hs[0]?=some 0
 low:∀(p:Nat) (x:Int),hs[p]?=some x->-1<=x∧x<=256
 seen:∀(p:Nat),p≠at_->sn[p]?=some true->Nd fs f hs p
 sub:∀H,Lab fs f H->∀(p:Nat) (x:Int),hs[p]?=some x->0<=x->H p=some x
 ci:f.code[at_]?=some i
 cx:hs[at_]?=some x0
 c0:0<=x0
 x1:0<=x0 - popN fs i
 x3:hgt fs i x0<=f.stack
 dn:∀q∈(nxt at_ i).take k,hs[q]?=some (hgt fs i x0)
theorem HInv.init{fs:List Fu}{f:Fu}(h:1<=f.code.length):HInv fs f ((List.replicate f.code.length (-1)).set 0 0) (List.replicate f.code.length false):=by
 refine⟨by simp,by simp,?_,fun p x hp=>?_,fun p hp=>?_,fun H hH p x hp h0=>?_⟩
 ·rw[List.getElem?_set_self (by simp;omega)]
 ·rw[List.getElem?_set] at hp;split at hp
  ·split at hp
   ·simp at hp;omega
   ·simp at hp
  ·rw[List.getElem?_replicate] at hp;split at hp
   ·simp at hp;omega
   ·simp at hp
 ·rw[List.getElem?_replicate] at hp;split at hp <;> simp at hp
 ·rw[List.getElem?_set] at hp;split at hp
  ·rename_i e;split at hp
   ·simp at hp;rw[<-e,<-hp];exact hH.zero
   ·simp at hp
  ·rw[List.getElem?_replicate] at hp;split at hp
   ·simp at hp;omega
   ·simp at hp
theorem HInv.done{fs:List Fu}{f:Fu}{hs:List Int}{sn:List Bool}(h:HInv fs f hs sn)(hn:∀(p:Nat) (x:Int),hs[p]?=some x->0<=x->sn[p]?=some true):Bo fs f:=by
 refine⟨fun p=>(hs[p]?).bind fun x=>if 0<=x then some x else none,?_,fun p x hp=>?_⟩
 ·rw[h.zero];rfl
 ·rcases hx:hs[p]? with _ | y
  ·rw[hx] at hp;cases hp
  ·rw[hx] at hp;have hp':(if 0<=y then some y else none)=some x:=hp;split at hp'
   ·rename_i h0;have e:y=x:=Option.some.inj hp';rw[e] at hx h0;clear hp hp';obtain⟨i,z,h1,h2,h3,h4,h5,h6⟩:=h.seen p (hn p x hx h0);rw[hx] at h2;cases h2;refine⟨i,h1,h4,h5,fun q hq=>?_⟩;rw[h6 q hq];show (if 0<=hgt fs i x then some (hgt fs i x) else none)=_;have:=Ei i.op;rw[if_pos (by unfold hgt;omega)]
   ·cases hp'
theorem HInv.into{fs:List Fu}{f:Fu}{hs:List Int}{sn:List Bool}(h:HInv fs f hs sn){at_:Nat}{i:In}{x0:Int}(hx:hs[at_]?=some x0)(h0:0<=x0)(hc:f.code[at_]?=some i)(x1:0<=x0 - popN fs i)(x3:hgt fs i x0<=f.stack):HPart fs f at_ i x0 0 hs (sn.set at_ true):=
 ⟨h.hl,by rw[List.length_set];exact h.sl,h.zero,h.low,fun p hp hs'=>h.seen p (by rwa [List.getElem?_set_ne (Ne.symm hp)] at hs'),h.sub,hc,hx,h0,x1,x3,fun q hq=>by simp at hq⟩
theorem Ic{fs:List Fu}{f:Fu}{hs:List Int}{sn:List Bool}(h:HInv fs f hs sn){at_:Nat}{i:In}{x0:Int}(hx:hs[at_]?=some x0)(h0:0<=x0)(hc:f.code[at_]?=some i)(hbad:¬0<=x0 - popN fs i∨¬hgt fs i x0<=f.stack):¬Bo fs f:=by
 rintro⟨H,hH⟩;obtain⟨j,h1,h2,h3,_⟩:=hH.step _ _ (h.sub H hH _ _ hx h0);rw[hc] at h1;cases h1;rcases hbad with hb | hb
 ·exact hb h2
 ·exact hb h3
theorem HPart.lab{fs:List Fu}{f:Fu}{at_:Nat}{i:In}{x0:Int}{k:Nat}{hs:List Int}{sn:List Bool}(h:HPart fs f at_ i x0 k hs sn){H:Nat->Option Int}(hH:Lab fs f H){q:Nat}(hq:q∈nxt at_ i):H q=some (hgt fs i x0):=by
 obtain⟨j,h1,_,_,h4⟩:=hH.step _ _ (h.sub H hH _ _ h.cx h.c0);rw[h.ci] at h1;cases h1;exact h4 q hq
theorem HPart.no{fs:List Fu}{f:Fu}{at_:Nat}{i:In}{x0:Int}{k:Nat}{hs:List Int}{sn:List Bool}(h:HPart fs f at_ i x0 k hs sn){q:Nat}(hq:(nxt at_ i)[k]?=some q)(hbad:f.code.length<=q∨∃y,hs[q]?=some y∧0<=y∧y≠hgt fs i x0):¬Bo fs f:=by
 rintro⟨H,hH⟩;have h1:=h.lab hH (List.mem_of_getElem? hq);rcases hbad with hb | ⟨y,h2,h3,h4⟩
 ·obtain⟨j,h5,_⟩:=hH.step _ _ h1;have:=(List.getElem?_eq_some_iff.1 h5).1;omega
 ·have:=h.sub H hH q y h2 h3;rw[h1] at this;cases this;exact h4 rfl
theorem HPart.set{fs:List Fu}{f:Fu}{at_:Nat}{i:In}{x0:Int}{k:Nat}{hs:List Int}{sn:List Bool}(h:HPart fs f at_ i x0 k hs sn)(hst:f.stack<=256){q:Nat}(hq:(nxt at_ i)[k]?=some q){y:Int}(hy:hs[q]?=some y)(hyx:y<0∨y=hgt fs i x0):HPart fs f at_ i x0 (k+1) (hs.set q (hgt fs i x0)) sn:=by
 have hpos:0<=hgt fs i x0:=by have:=Ei i.op;have:=h.x1;unfold hgt;omega
 have hql:=(List.getElem?_eq_some_iff.1 hy).1;have hkeep:∀(p:Nat) (z:Int),hs[p]?=some z->0<=z->(hs.set q (hgt fs i x0))[p]?=some z:=by
  intro p z hz h0;by_cases e:q=p
  ·subst e;rw[hy] at hz;cases hz;rw[List.getElem?_set_self hql];rcases hyx with h1 | h1
   ·omega
   ·rw[h1]
  ·rw[List.getElem?_set_ne e];exact hz
 have hgone:∀p,Nd fs f hs p->Nd fs f (hs.set q (hgt fs i x0)) p:=by
  rintro p ⟨j,z,a1,a2,a3,a4,a5,a6⟩;refine⟨j,z,a1,hkeep p z a2 a3,a3,a4,a5,fun r hr=>hkeep r _ (a6 r hr) ?_⟩;have:=Ei j.op;unfold hgt;omega
 refine⟨by rw[List.length_set];exact h.hl,h.sl,hkeep 0 0 h.zero (by omega),fun p z hz=>?_,fun p hp hs'=>hgone p (h.seen p hp hs'),fun H hH p z hz h0=>?_,h.ci,hkeep _ _ h.cx h.c0,h.c0,h.x1,h.x3,fun r hr=>?_⟩
 ·rw[List.getElem?_set] at hz;split at hz
  ·simp at hz;have:=h.x3;omega
  ·exact h.low p z hz
 ·rw[List.getElem?_set] at hz;split at hz
  ·rename_i e;simp at hz;rw[<-e,<-hz];exact h.lab hH (List.mem_of_getElem? hq)
  ·exact h.sub H hH p z hz h0
 ·rw[List.take_add_one,hq] at hr;rcases List.mem_append.1 hr with hr | hr
  ·exact hkeep r _ (h.dn r hr) hpos
  ·simp at hr;subst hr;rw[List.getElem?_set_self hql]
theorem HPart.out{fs:List Fu}{f:Fu}{at_:Nat}{i:In}{x0:Int}{k:Nat}{hs:List Int}{sn:List Bool}(h:HPart fs f at_ i x0 k hs sn)(hk:(nxt at_ i).length<=k):HInv fs f hs sn:=by
 refine⟨h.hl,h.sl,h.zero,h.low,fun p hs'=>?_,h.sub⟩;by_cases e:p=at_
 ·subst e;exact⟨i,x0,h.ci,h.cx,h.c0,h.x1,h.x3,fun q hq=>h.dn q (by rwa [List.take_of_length_le hk])⟩
 ·exact h.seen p e hs'
def left(sn:List Bool):Nat:=(sn.filter fun b=>!b).length
theorem Id:∀(sn:List Bool) (p:Nat),sn[p]?=some false->left (sn.set p true)+1=left sn
 | [],p,h=>by simp at h
 | b :: r,0,h=>by simp at h;subst h;simp[left]
 | b :: r,p+1,h=>by
  have ih:=Id r p (by simpa using h);unfold left at *;cases b
  ·simp only[List.set_cons_succ,List.filter_cons,Bool.not_false,if_true,List.length_cons];omega
  ·simp only[List.set_cons_succ,List.filter_cons,Bool.not_true,Bool.false_eq_true,if_false];omega
structure VOut where
 val:V
 sts:List V
 fuel:Int
 trap:Int
def opV(it:Int->List UInt8)(i:In)(v:List V):V × Int:=
 if i.op=12 then binV i.a (v.getD 0 zV) (v.getD 1 zV)
 else if i.op=13 then negV (v.getD 0 zV)
 else if i.op=14 then (bV' (decide ((v.getD 0 zV).n=0)),if (v.getD 0 zV).k=2 then 0 else 40)
 else if i.op=15 then (nV (Bp (v.getD 0 zV)).1,(Bp (v.getD 0 zV)).2)
 else if i.op=16 then (if (v.getD 0 zV).k=1 then (tV (it (v.getD 0 zV).n),0) else (zV,40))
 else if i.op=17 then (bV' (decide ((atV (v.getD 0 zV) (v.getD 1 zV)).2=0)),if (v.getD 0 zV).k=5 then 0 else 40)
 else if i.op=18 then atV (v.getD 0 zV) (v.getD 1 zV)
 else if i.op=19 then pushV (v.getD 0 zV) (v.getD 1 zV)
 else if i.op=20 then putV (v.getD 0 zV) (v.getD 1 zV) (v.getD 2 zV)
 else if i.op=21 then delV (v.getD 0 zV) (v.getD 1 zV)
 else (zV,0)
def loc0(f:Fu)(args:List V):List V:=args ++ List.replicate (f.locals.toNat - args.length) (nV 0)
inductive Nx where
 | done (o:VOut)
 | go (p:Nat) (loc stk sts:List V) (fl:Int)
 | call (k:Nat) (loc s:List V) (fl:Int)
 | bad
def vmI(it:Int->List UInt8)(m:Md)(i:In)(p:Nat)(loc s v sts:List V)(fl:Int):Nx:=
 if i.op=1 then .go (p+1) loc (s ++ [m.consts.getD i.a.toNat zV]) sts fl
 else if i.op=2 then .go (p+1) loc (s ++ [loc.getD i.a.toNat zV]) sts fl
 else if i.op=3 then .go (p+1) (loc.set i.a.toNat (v.getD 0 zV)) s sts fl
 else if i.op=4 then .go (p+1) loc (s ++ [sts.getD i.a.toNat zV]) sts fl
 else if i.op=5 then .go (p+1) loc s (sts.set i.a.toNat (v.getD 0 zV)) fl
 else if i.op=6 then .go (p+1) loc s sts fl
 else if i.op=8∧(v.getD 0 zV).k≠2 then .done ⟨zV,sts,fl,40⟩
 else if i.op=7∨(i.op=8∧(v.getD 0 zV).n=0) then
  (if i.a<=p then (if fl<1 then .done ⟨zV,sts,0,54⟩ else .go i.a.toNat loc s sts (fl - 1)) else .go i.a.toNat loc s sts fl)
 else if i.op=8 then .go (p+1) loc s sts fl
 else if i.op=9 then (if fl<1 then .done ⟨zV,sts,0,54⟩ else match m.funcs[i.a.toNat]? with
   | none=>.bad
   | some f'=>.call i.a.toNat (loc0 f' v) s (fl - 1))
 else if i.op=10 then .done ⟨v.getD 0 zV,sts,fl,0⟩
 else if i.op=11 then (if fl<i.a then .done ⟨zV,sts,0,54⟩ else .go (p+1) loc s sts (fl - i.a))
 else if (opV it i v).2≠0 then .done ⟨zV,sts,fl,(opV it i v).2⟩
 else .go (p+1) loc (s ++ [(opV it i v).1]) sts fl
def vmN(it:Int->List UInt8)(m:Md)(n p:Nat)(loc stk sts:List V)(fl:Int):Nx:=
 match (m.funcs[n]?).bind (fun f=>f.code[p]?) with
 | none=>.bad
 | some i=>vmI it m i p loc (stk.take (stk.length - (popN m.funcs i).toNat)) (stk.drop (stk.length - (popN m.funcs i).toNat)) sts fl
def vmRun(it:Int->List UInt8)(m:Md):Nat->Nat->Nat->List V->List V->List V->Int->Option VOut
 | 0,_,_,_,_,_,_=>none
 | g+1,n,p,loc,stk,sts,fl=>
  match vmN it m n p loc stk sts fl with
  | .bad=>none
  | .done o=>some o
  | .go p' loc' stk' sts' fl'=>vmRun it m g n p' loc' stk' sts' fl'
  | .call k lk s fl'=>
   match vmRun it m g k 0 lk [] sts fl' with
   | none=>none
   | some o=>if o.trap≠0 then some o else vmRun it m g n (p+1) loc (s ++ [o.val]) o.sts o.fuel
theorem vm_mono{it:Int->List UInt8}{m:Md}:∀(g:Nat) {n p:Nat} {loc stk sts:List V} {fl:Int} {o:VOut},vmRun it m g n p loc stk sts fl=some o->vmRun it m (g+1) n p loc stk sts fl=some o
 | 0,n,p,loc,stk,sts,fl,o,h=>by rw[vmRun] at h;cases h
 | g+1,n,p,loc,stk,sts,fl,o,h=>by
  rw[vmRun] at h ⊢;generalize vmN it m n p loc stk sts fl=x at h ⊢;rcases x with o' | ⟨p',loc',stk',sts',fl'⟩ | ⟨k,lk,s,fl'⟩ | _
  ·exact h
  ·exact vm_mono g h
  ·have h':(match vmRun it m g k 0 lk [] sts fl' with
    | none=>none
    | some o=>if o.trap≠0 then some o else vmRun it m g n (p+1) loc (s ++ [o.val]) o.sts o.fuel)=some o:=h
   show (match vmRun it m (g+1) k 0 lk [] sts fl' with
    | none=>none
    | some o=>if o.trap≠0 then some o else vmRun it m (g+1) n (p+1) loc (s ++ [o.val]) o.sts o.fuel)=some o
   rcases ho:vmRun it m g k 0 lk [] sts fl' with _ | o'
   ·rw[ho] at h';cases h'
   rw[ho] at h';rw[vm_mono g ho];have h2:(if o'.trap≠0 then some o' else vmRun it m g n (p+1) loc (s ++ [o'.val]) o'.sts o'.fuel)=some o:=h';show (if o'.trap≠0 then some o' else vmRun it m (g+1) n (p+1) loc (s ++ [o'.val]) o'.sts o'.fuel)=some o;split
   ·rename_i c;rw[if_pos c] at h2;exact h2
   ·rename_i c;rw[if_neg c] at h2;exact vm_mono g h2
  ·exact h
theorem Pd{it:Int->List UInt8}{m:Md}{g g':Nat}(hg:g<=g'){n p:Nat}{loc stk sts:List V}{fl:Int}{o:VOut}(h:vmRun it m g n p loc stk sts fl=some o):vmRun it m g' n p loc stk sts fl=some o:=by
 obtain⟨d,rfl⟩:∃d,g'=g+d:=⟨g' - g,by omega⟩;clear hg;induction d with
 | zero=>exact h
 | succ d ih=>exact vm_mono _ ih
theorem S5(x:Int):(exR x).2≠54:=by unfold exR;split <;> simp
theorem W9(op a b:Int):(arZ op a b).2≠54:=by
 unfold arZ
 repeat' split
 all_goals first
  | exact S5 _
  | simp
theorem Vh(op:Int)(a b:V):(binV op a b).2≠54:=by
 unfold binV
 repeat' split
 all_goals first
  | exact W9 _ _ _
  | simp
theorem Vi(a:V):(negV a).2≠54:=by
 unfold negV
 repeat' split
 all_goals first
  | exact S5 _
  | simp
theorem S6(v k:V):(plV v k).2≠54:=by
 unfold plV
 repeat' split
 all_goals simp
theorem S7(v:V):(wgV v).2≠54:=by unfold wgV;split <;> simp
theorem Xa(v k:V):(atV v k).2≠54:=by
 unfold atV;split
 ·simp
 ·exact S6 _ _
theorem Xb(it:Int->List UInt8)(i:In)(v:List V):(opV it i v).2≠54:=by
 unfold opV;split
 ·exact Vh _ _ _
 split
 ·exact Vi _
 split
 ·dsimp only;split <;> simp
 split
 ·unfold Bp;repeat' split
  all_goals simp
 split
 ·split <;> simp
 split
 ·dsimp only;split <;> simp
 split
 ·exact Xa _ _
 split
 ·unfold pushV
  repeat' split
  all_goals first
   | exact S7 _
   | simp
 split
 ·unfold putV
  repeat' split
  all_goals first
   | exact S7 _
   | exact S6 _ _
   | simp
 split
 ·unfold delV
  repeat' split
  all_goals simp
 ·simp
structure InW(i:In):Prop where
 lo:1<=i.op
 hi:i.op<=21
 pos:i.op=7∨i.op=8∨i.op=11->0<=i.a
theorem Gp{it:Int->List UInt8}{m:Md}{i:In}(hw:InW i){p:Nat}{loc s v sts:List V}{fl:Int}(h0:0<=fl){p':Nat}{loc' stk' sts':List V}{fl':Int}(h:vmI it m i p loc s v sts fl=.go p' loc' stk' sts' fl'):p'∈nxt p i∧(stk'.length:Int)=s.length+psh i.op∧fl'<=fl∧0<=fl'∧(p'<=p->fl'<fl):=by
 have hlo:=hw.lo;have hhi:=hw.hi;have hpos:=hw.pos;have hn:∀q:Nat,i.op≠7->i.op≠10->q=p+1->q∈nxt p i:=fun q h7 h10 e=>by
  unfold nxt;rw[if_neg (show ¬(i.op=7∨i.op=10) by omega),e];simp
 have hj:i.op=7∨i.op=8->i.a.toNat∈nxt p i:=fun h=>by
  unfold nxt;rw[if_pos h];simp
 unfold vmI at h;by_cases c1:i.op=1
 ·simp only[if_pos c1,Nx.go.injEq] at h;obtain⟨rfl,rfl,rfl,rfl,rfl⟩:=h;exact⟨hn _ (by omega) (by omega) rfl,by rw[c1];simp[psh,pshB],by omega,h0,by omega⟩
 simp only[if_neg c1] at h;by_cases c2:i.op=2
 ·simp only[if_pos c2,Nx.go.injEq] at h;obtain⟨rfl,rfl,rfl,rfl,rfl⟩:=h;exact⟨hn _ (by omega) (by omega) rfl,by rw[c2];simp[psh,pshB],by omega,h0,by omega⟩
 simp only[if_neg c2] at h;by_cases c3:i.op=3
 ·simp only[if_pos c3,Nx.go.injEq] at h;obtain⟨rfl,rfl,rfl,rfl,rfl⟩:=h;exact⟨hn _ (by omega) (by omega) rfl,by rw[c3];simp[psh,pshB],by omega,h0,by omega⟩
 simp only[if_neg c3] at h;by_cases c4:i.op=4
 ·simp only[if_pos c4,Nx.go.injEq] at h;obtain⟨rfl,rfl,rfl,rfl,rfl⟩:=h;exact⟨hn _ (by omega) (by omega) rfl,by rw[c4];simp[psh,pshB],by omega,h0,by omega⟩
 simp only[if_neg c4] at h;by_cases c5:i.op=5
 ·simp only[if_pos c5,Nx.go.injEq] at h;obtain⟨rfl,rfl,rfl,rfl,rfl⟩:=h;exact⟨hn _ (by omega) (by omega) rfl,by rw[c5];simp[psh,pshB],by omega,h0,by omega⟩
 simp only[if_neg c5] at h;by_cases c6:i.op=6
 ·simp only[if_pos c6,Nx.go.injEq] at h;obtain⟨rfl,rfl,rfl,rfl,rfl⟩:=h;exact⟨hn _ (by omega) (by omega) rfl,by rw[c6];simp[psh,pshB],by omega,h0,by omega⟩
 simp only[if_neg c6] at h;by_cases c7:i.op=8∧(v.getD 0 zV).k≠2
 ·simp only[if_pos c7] at h;cases h
 simp only[if_neg c7] at h;by_cases c8:i.op=7∨(i.op=8∧(v.getD 0 zV).n=0)
 ·simp only[if_pos c8] at h;have hps:psh i.op=0:=by rcases c8 with e | ⟨e,-⟩ <;> rw[e] <;> simp[psh,pshB]
  have hjj:=hj (by omega);have ha:0<=i.a:=hpos (by omega);by_cases ca:i.a<=p
  ·simp only[if_pos ca] at h;by_cases cf:fl<1
   ·simp only[if_pos cf] at h;cases h
   ·simp only[if_neg cf,Nx.go.injEq] at h;obtain⟨rfl,rfl,rfl,rfl,rfl⟩:=h;exact⟨hjj,by rw[hps];omega,by omega,by omega,by omega⟩
  ·simp only[if_neg ca,Nx.go.injEq] at h;obtain⟨rfl,rfl,rfl,rfl,rfl⟩:=h;exact⟨hjj,by rw[hps];omega,by omega,by omega,by omega⟩
 simp only[if_neg c8] at h;by_cases c9:i.op=8
 ·simp only[if_pos c9,Nx.go.injEq] at h;obtain⟨rfl,rfl,rfl,rfl,rfl⟩:=h;exact⟨hn _ (by omega) (by omega) rfl,by rw[c9];simp[psh,pshB],by omega,h0,by omega⟩
 simp only[if_neg c9] at h;by_cases c10:i.op=9
 ·simp only[if_pos c10] at h;by_cases cf:fl<1
  ·simp only[if_pos cf] at h;cases h
  ·simp only[if_neg cf] at h;rcases hf:m.funcs[i.a.toNat]? with _ | f'
   ·rw[hf] at h;cases h
   ·rw[hf] at h;cases h
 simp only[if_neg c10] at h;by_cases c11:i.op=10
 ·simp only[if_pos c11] at h;cases h
 simp only[if_neg c11] at h;by_cases c12:i.op=11
 ·simp only[if_pos c12] at h;have ha:0<=i.a:=hpos (by omega);by_cases cf:fl<i.a
  ·simp only[if_pos cf] at h;cases h
  ·simp only[if_neg cf,Nx.go.injEq] at h;obtain⟨rfl,rfl,rfl,rfl,rfl⟩:=h;exact⟨hn _ (by omega) (by omega) rfl,by rw[c12];simp[psh,pshB],by omega,by omega,by omega⟩
 simp only[if_neg c12] at h;by_cases c13:(opV it i v).2≠0
 ·simp only[if_pos c13] at h;cases h
 ·simp only[if_neg c13,Nx.go.injEq] at h;obtain⟨rfl,rfl,rfl,rfl,rfl⟩:=h;have hps:psh i.op=1:=by
   have:i.op=12∨i.op=13∨i.op=14∨i.op=15∨i.op=16∨i.op=17∨i.op=18∨i.op=19∨i.op=20∨i.op=21:=by omega
   rcases this with e | e | e | e | e | e | e | e | e | e <;> rw[e] <;> simp[psh,pshB]
  exact⟨hn _ (by omega) (by omega) rfl,by rw[hps];simp,by omega,h0,by omega⟩
theorem D6{it:Int->List UInt8}{m:Md}{i:In}{p:Nat}{loc s v sts:List V}{fl:Int}{k:Nat}{lk s':List V}{fl':Int}(h:vmI it m i p loc s v sts fl=.call k lk s' fl'):i.op=9∧k=i.a.toNat∧s'=s∧fl'=fl - 1∧0<=fl'∧∃f',m.funcs[k]?=some f'∧lk=loc0 f' v:=by
 unfold vmI at h;by_cases c1:i.op=1
 ·simp only[if_pos c1] at h;cases h
 simp only[if_neg c1] at h;by_cases c2:i.op=2
 ·simp only[if_pos c2] at h;cases h
 simp only[if_neg c2] at h;by_cases c3:i.op=3
 ·simp only[if_pos c3] at h;cases h
 simp only[if_neg c3] at h;by_cases c4:i.op=4
 ·simp only[if_pos c4] at h;cases h
 simp only[if_neg c4] at h;by_cases c5:i.op=5
 ·simp only[if_pos c5] at h;cases h
 simp only[if_neg c5] at h;by_cases c6:i.op=6
 ·simp only[if_pos c6] at h;cases h
 simp only[if_neg c6] at h;by_cases c7:i.op=8∧(v.getD 0 zV).k≠2
 ·simp only[if_pos c7] at h;cases h
 simp only[if_neg c7] at h;by_cases c8:i.op=7∨(i.op=8∧(v.getD 0 zV).n=0)
 ·simp only[if_pos c8] at h;by_cases ca:i.a<=p
  ·simp only[if_pos ca] at h;by_cases cf:fl<1
   ·simp only[if_pos cf] at h;cases h
   ·simp only[if_neg cf] at h;cases h
  ·simp only[if_neg ca] at h;cases h
 simp only[if_neg c8] at h;by_cases c9:i.op=8
 ·simp only[if_pos c9] at h;cases h
 simp only[if_neg c9] at h;by_cases c10:i.op=9
 ·simp only[if_pos c10] at h;by_cases cf:fl<1
  ·simp only[if_pos cf] at h;cases h
  ·simp only[if_neg cf] at h;rcases hf:m.funcs[i.a.toNat]? with _ | f'
   ·rw[hf] at h;cases h
   ·rw[hf] at h;have h':Nx.call i.a.toNat (loc0 f' v) s (fl - 1)=.call k lk s' fl':=h;simp only[Nx.call.injEq] at h';obtain⟨rfl,rfl,rfl,rfl⟩:=h';exact⟨c10,rfl,rfl,rfl,by omega,f',hf,rfl⟩
 simp only[if_neg c10] at h;by_cases c11:i.op=10
 ·simp only[if_pos c11] at h;cases h
 simp only[if_neg c11] at h;by_cases c12:i.op=11
 ·simp only[if_pos c12] at h;by_cases cf:fl<i.a
  ·simp only[if_pos cf] at h;cases h
  ·simp only[if_neg cf] at h;cases h
 simp only[if_neg c12] at h;by_cases c13:(opV it i v).2≠0
 ·simp only[if_pos c13] at h;cases h
 ·simp only[if_neg c13] at h;cases h
theorem Pe{it:Int->List UInt8}{m:Md}{i:In}{p:Nat}{loc s v sts:List V}{fl:Int}(h:vmI it m i p loc s v sts fl=.bad):i.op=9∧m.funcs[i.a.toNat]?=none:=by
 unfold vmI at h;by_cases c1:i.op=1
 ·simp only[if_pos c1] at h;cases h
 simp only[if_neg c1] at h;by_cases c2:i.op=2
 ·simp only[if_pos c2] at h;cases h
 simp only[if_neg c2] at h;by_cases c3:i.op=3
 ·simp only[if_pos c3] at h;cases h
 simp only[if_neg c3] at h;by_cases c4:i.op=4
 ·simp only[if_pos c4] at h;cases h
 simp only[if_neg c4] at h;by_cases c5:i.op=5
 ·simp only[if_pos c5] at h;cases h
 simp only[if_neg c5] at h;by_cases c6:i.op=6
 ·simp only[if_pos c6] at h;cases h
 simp only[if_neg c6] at h;by_cases c7:i.op=8∧(v.getD 0 zV).k≠2
 ·simp only[if_pos c7] at h;cases h
 simp only[if_neg c7] at h;by_cases c8:i.op=7∨(i.op=8∧(v.getD 0 zV).n=0)
 ·simp only[if_pos c8] at h;by_cases ca:i.a<=p
  ·simp only[if_pos ca] at h;by_cases cf:fl<1
   ·simp only[if_pos cf] at h;cases h
   ·simp only[if_neg cf] at h;cases h
  ·simp only[if_neg ca] at h;cases h
 simp only[if_neg c8] at h;by_cases c9:i.op=8
 ·simp only[if_pos c9] at h;cases h
 simp only[if_neg c9] at h;by_cases c10:i.op=9
 ·simp only[if_pos c10] at h;by_cases cf:fl<1
  ·simp only[if_pos cf] at h;cases h
  ·simp only[if_neg cf] at h;rcases hf:m.funcs[i.a.toNat]? with _ | f'
   ·exact⟨c10,rfl⟩
   ·rw[hf] at h;cases h
 simp only[if_neg c10] at h;by_cases c11:i.op=10
 ·simp only[if_pos c11] at h;cases h
 simp only[if_neg c11] at h;by_cases c12:i.op=11
 ·simp only[if_pos c12] at h;by_cases cf:fl<i.a
  ·simp only[if_pos cf] at h;cases h
  ·simp only[if_neg cf] at h;cases h
 simp only[if_neg c12] at h;by_cases c13:(opV it i v).2≠0
 ·simp only[if_pos c13] at h;cases h
 ·simp only[if_neg c13] at h;cases h
theorem S8{it:Int->List UInt8}{m:Md}{i:In}{p:Nat}{loc s v sts:List V}{fl:Int}(h0:0<=fl){o:VOut}(h:vmI it m i p loc s v sts fl=.done o):0<=o.fuel∧o.fuel<=fl∧(o.trap=54->o.fuel=0):=by
 unfold vmI at h;by_cases c1:i.op=1
 ·simp only[if_pos c1] at h;cases h
 simp only[if_neg c1] at h;by_cases c2:i.op=2
 ·simp only[if_pos c2] at h;cases h
 simp only[if_neg c2] at h;by_cases c3:i.op=3
 ·simp only[if_pos c3] at h;cases h
 simp only[if_neg c3] at h;by_cases c4:i.op=4
 ·simp only[if_pos c4] at h;cases h
 simp only[if_neg c4] at h;by_cases c5:i.op=5
 ·simp only[if_pos c5] at h;cases h
 simp only[if_neg c5] at h;by_cases c6:i.op=6
 ·simp only[if_pos c6] at h;cases h
 simp only[if_neg c6] at h;by_cases c7:i.op=8∧(v.getD 0 zV).k≠2
 ·simp only[if_pos c7] at h;cases h;exact⟨h0,Int.le_refl _,fun h=>by cases h⟩
 simp only[if_neg c7] at h;by_cases c8:i.op=7∨(i.op=8∧(v.getD 0 zV).n=0)
 ·simp only[if_pos c8] at h;by_cases ca:i.a<=p
  ·simp only[if_pos ca] at h;by_cases cf:fl<1
   ·simp only[if_pos cf] at h;cases h;exact⟨Int.le_refl _,h0,fun _=>rfl⟩
   ·simp only[if_neg cf] at h;cases h
  ·simp only[if_neg ca] at h;cases h
 simp only[if_neg c8] at h;by_cases c9:i.op=8
 ·simp only[if_pos c9] at h;cases h
 simp only[if_neg c9] at h;by_cases c10:i.op=9
 ·simp only[if_pos c10] at h;by_cases cf:fl<1
  ·simp only[if_pos cf] at h;cases h;exact⟨Int.le_refl _,h0,fun _=>rfl⟩
  ·simp only[if_neg cf] at h;rcases hf:m.funcs[i.a.toNat]? with _ | f'
   ·rw[hf] at h;cases h
   ·rw[hf] at h;cases h
 simp only[if_neg c10] at h;by_cases c11:i.op=10
 ·simp only[if_pos c11] at h;cases h;exact⟨h0,Int.le_refl _,fun h=>by cases h⟩
 simp only[if_neg c11] at h;by_cases c12:i.op=11
 ·simp only[if_pos c12] at h;by_cases cf:fl<i.a
  ·simp only[if_pos cf] at h;cases h;exact⟨Int.le_refl _,h0,fun _=>rfl⟩
  ·simp only[if_neg cf] at h;cases h
 simp only[if_neg c12] at h;by_cases c13:(opV it i v).2≠0
 ·simp only[if_pos c13] at h;cases h;exact⟨h0,Int.le_refl _,fun h=>absurd h (Xb _ _ _)⟩
 ·simp only[if_neg c13] at h;cases h
structure HQ(fs:List Fu)(f:Fu)(at_:Nat)(i:In)(x0:Int)(dn:List Nat)(hs:List Int)(sn:List Bool):Prop where
 hl:hs.length=f.code.length
 sl:sn.length=f.code.length
 zero:hs[0]?=some 0
 low:∀(p:Nat) (x:Int),hs[p]?=some x->-1<=x∧x<=256
 seen:∀(p:Nat),p≠at_->sn[p]?=some true->Nd fs f hs p
 sub:∀H,Lab fs f H->∀(p:Nat) (x:Int),hs[p]?=some x->0<=x->H p=some x
 ci:f.code[at_]?=some i
 cx:hs[at_]?=some x0
 c0:0<=x0
 x1:0<=x0 - popN fs i
 x3:hgt fs i x0<=f.stack
 dne:∀q∈dn,hs[q]?=some (hgt fs i x0)
theorem HInv.intoQ{fs:List Fu}{f:Fu}{hs:List Int}{sn:List Bool}(h:HInv fs f hs sn){at_:Nat}{i:In}{x0:Int}(hx:hs[at_]?=some x0)(h0:0<=x0)(hc:f.code[at_]?=some i)(x1:0<=x0 - popN fs i)(x3:hgt fs i x0<=f.stack):HQ fs f at_ i x0 [] hs (sn.set at_ true):=
 ⟨h.hl,by rw[List.length_set];exact h.sl,h.zero,h.low,fun p hp hs'=>h.seen p (by rwa [List.getElem?_set_ne (Ne.symm hp)] at hs'),h.sub,hc,hx,h0,x1,x3,fun q hq=>by simp at hq⟩
theorem HQ.lab{fs:List Fu}{f:Fu}{at_:Nat}{i:In}{x0:Int}{dn:List Nat}{hs:List Int}{sn:List Bool}(h:HQ fs f at_ i x0 dn hs sn){H:Nat->Option Int}(hH:Lab fs f H){q:Nat}(hq:q∈nxt at_ i):H q=some (hgt fs i x0):=by
 obtain⟨j,h1,_,_,h4⟩:=hH.step _ _ (h.sub H hH _ _ h.cx h.c0);rw[h.ci] at h1;cases h1;exact h4 q hq
theorem HQ.no{fs:List Fu}{f:Fu}{at_:Nat}{i:In}{x0:Int}{dn:List Nat}{hs:List Int}{sn:List Bool}(h:HQ fs f at_ i x0 dn hs sn){q:Nat}(hq:q∈nxt at_ i)(hbad:f.code.length<=q∨∃y,hs[q]?=some y∧0<=y∧y≠hgt fs i x0):¬Bo fs f:=by
 rintro⟨H,hH⟩;have h1:=h.lab hH hq;rcases hbad with hb | ⟨y,h2,h3,h4⟩
 ·obtain⟨j,h5,_⟩:=hH.step _ _ h1;have:=(List.getElem?_eq_some_iff.1 h5).1;omega
 ·have:=h.sub H hH q y h2 h3;rw[h1] at this;cases this;exact h4 rfl
theorem HQ.pos{fs:List Fu}{f:Fu}{at_:Nat}{i:In}{x0:Int}{dn:List Nat}{hs:List Int}{sn:List Bool}(h:HQ fs f at_ i x0 dn hs sn):0<=hgt fs i x0:=by have:=Ei i.op;have:=h.x1;unfold hgt;omega
theorem HQ.old{fs:List Fu}{f:Fu}{at_:Nat}{i:In}{x0:Int}{dn:List Nat}{hs:List Int}{sn:List Bool}(h:HQ fs f at_ i x0 dn hs sn){q:Nat}(hy:hs[q]?=some (hgt fs i x0)):HQ fs f at_ i x0 (q :: dn) hs sn:=
 ⟨h.hl,h.sl,h.zero,h.low,h.seen,h.sub,h.ci,h.cx,h.c0,h.x1,h.x3,fun r hr=>by
  rcases List.mem_cons.1 hr with rfl | hr
  ·exact hy
  ·exact h.dne r hr⟩
theorem HQ.set{fs:List Fu}{f:Fu}{at_:Nat}{i:In}{x0:Int}{dn:List Nat}{hs:List Int}{sn:List Bool}(h:HQ fs f at_ i x0 dn hs sn)(hst:f.stack<=256){q:Nat}(hq:q∈nxt at_ i){y:Int}(hy:hs[q]?=some y)(hyx:y<0):HQ fs f at_ i x0 (q :: dn) (hs.set q (hgt fs i x0)) sn:=by
 have hpos:=h.pos;have hql:=(List.getElem?_eq_some_iff.1 hy).1;have hkeep:∀(p:Nat) (z:Int),hs[p]?=some z->0<=z->(hs.set q (hgt fs i x0))[p]?=some z:=by
  intro p z hz h0;by_cases e:q=p
  ·subst e;rw[hy] at hz;cases hz;omega
  ·rw[List.getElem?_set_ne e];exact hz
 have hgone:∀p,Nd fs f hs p->Nd fs f (hs.set q (hgt fs i x0)) p:=by
  rintro p ⟨j,z,a1,a2,a3,a4,a5,a6⟩;refine⟨j,z,a1,hkeep p z a2 a3,a3,a4,a5,fun r hr=>hkeep r _ (a6 r hr) ?_⟩;have:=Ei j.op;unfold hgt;omega
 refine⟨by rw[List.length_set];exact h.hl,h.sl,hkeep 0 0 h.zero (by omega),fun p z hz=>?_,fun p hp hs'=>hgone p (h.seen p hp hs'),fun H hH p z hz h0=>?_,h.ci,hkeep _ _ h.cx h.c0,h.c0,h.x1,h.x3,fun r hr=>?_⟩
 ·rw[List.getElem?_set] at hz;split at hz
  ·simp at hz;have:=h.x3;omega
  ·exact h.low p z hz
 ·rw[List.getElem?_set] at hz;split at hz
  ·rename_i e;simp at hz;rw[<-e,<-hz];exact h.lab hH hq
  ·exact h.sub H hH p z hz h0
 ·rcases List.mem_cons.1 hr with rfl | hr
  ·rw[List.getElem?_set_self hql]
  ·exact hkeep r _ (h.dne r hr) hpos
theorem HQ.out{fs:List Fu}{f:Fu}{at_:Nat}{i:In}{x0:Int}{dn:List Nat}{hs:List Int}{sn:List Bool}(h:HQ fs f at_ i x0 dn hs sn)(hk:∀q∈nxt at_ i,q∈dn):HInv fs f hs sn:=by
 refine⟨h.hl,h.sl,h.zero,h.low,fun p hs'=>?_,h.sub⟩;by_cases e:p=at_
 ·subst e;exact⟨i,x0,h.ci,h.cx,h.c0,h.x1,h.x3,fun q hq=>h.dne q (hk q hq)⟩
 ·exact h.seen p e hs'
def rch(hs:List Int)(td:List Nat)(q:Nat)(h:Int):Option (List Int × List Nat):=
 match hs[q]? with
 | none=>none
 | some y=>if y=0 then some (hs.set q (h+1),td ++ [q]) else if y - 1=h then some (hs,td) else none
def Ej(h:Int):List Int->List Nat->List Nat->Option (List Int × List Nat)
 | hs,td,[]=>some (hs,td)
 | hs,td,q :: r=>(rch hs td q h).bind fun s=>Ej h s.1 s.2 r
def lnx(p:Nat)(i:In):List Nat:=if i.op=7 then [i.a.toNat] else if i.op=8 then [p+1,i.a.toNat] else if i.op=10 then [] else [p+1]
theorem Kg{p:Nat}{i:In}{q:Nat}:q∈lnx p i↔q∈nxt p i:=by
 unfold lnx nxt;by_cases h7:i.op=7
 ·simp[h7]
 ·by_cases h8:i.op=8
  ·simp[h8,or_comm]
  ·by_cases h10:i.op=10 <;> simp[h7,h8,h10]
def zrs(l:List Int):Nat:=(l.filter fun x=>x == 0).length
theorem Kh:∀(l:List Int) (p:Nat) (y:Int),l[p]?=some 0->y≠0->zrs (l.set p y)+1=zrs l
 | [],p,y,h,hy=>by simp at h
 | b :: r,0,y,h,hy=>by simp at h;subst h;simp[zrs,hy]
 | b :: r,p+1,y,h,hy=>by
  have ih:=Kh r p y (by simpa using h) hy;unfold zrs at *;by_cases hb:b=0
  ·subst hb;simp only[List.set_cons_succ,List.filter_cons,beq_self_eq_true,if_true,List.length_cons];omega
  ·have:(b == 0)=false:=by simpa using hb
   simp only[List.set_cons_succ,List.filter_cons,this,Bool.false_eq_true,if_false];omega
abbrev dnH(hs:List Int):List Int:=hs.map (· - 1)
theorem dnH_get{hs:List Int}{p:Nat}{x:Int}(h:hs[p]?=some x):(dnH hs)[p]?=some (x - 1):=by rw[List.getElem?_map,h];rfl
theorem dnH_of{hs:List Int}{p:Nat}{x:Int}(h:(dnH hs)[p]?=some x):hs[p]?=some (x+1):=by
 rw[List.getElem?_map] at h;rcases e:hs[p]? with _ | y
 ·rw[e] at h;cases h
 ·rw[e] at h;have:y - 1=x:=by simpa using h
  rw[show y=x+1 by omega]
theorem U6(hs:List Int)(q:Nat)(h:Int):dnH (hs.set q (h+1))=(dnH hs).set q h:=by
 rw[dnH,List.map_set];congr 1;omega
structure Tdo(f:Fu)(hs:List Int)(td:List Nat)(sn:List Bool):Prop where
 td_:∀n∈td,(∃x,hs[n]?=some x∧1<=x)∧sn[n]?=some false
 nd:td.Nodup
 cov:∀(p:Nat) (x:Int),hs[p]?=some x->1<=x->sn[p]?=some true∨p∈td
 few:td.length+zrs hs<=f.code.length
theorem W4{fs:List Fu}{f:Fu}{at_:Nat}{i:In}{x0:Int}{dn:List Nat}{hs:List Int}{td:List Nat}{sn:List Bool}(h:HQ fs f at_ i x0 dn (dnH hs) sn){q:Nat}(hq:q∈nxt at_ i)(hr:rch hs td q (hgt fs i x0)=none):¬Bo fs f:=by
 have hl:hs.length=f.code.length:=by have:=h.hl;simpa using this
 unfold rch at hr;rcases e:hs[q]? with _ | y
 ·exact h.no hq (Or.inl (by have:=List.getElem?_eq_none_iff.1 e;omega))
 ·rw[e] at hr;have hr':(if y=0 then some (hs.set q (hgt fs i x0+1),td ++ [q]) else if y - 1=hgt fs i x0 then some (hs,td) else none)=none:=hr;have hlow:=h.low q (y - 1) (dnH_get e);split at hr'
  ·cases hr'
  ·split at hr'
   ·cases hr'
   ·exact h.no hq (Or.inr ⟨y - 1,dnH_get e,by omega,by assumption⟩)
theorem O6{fs:List Fu}{f:Fu}{at_:Nat}{i:In}{x0:Int}{dn:List Nat}{hs:List Int}{td:List Nat}{sn:List Bool}(h:HQ fs f at_ i x0 dn (dnH hs) sn)(ht:Tdo f hs td sn)(hst:f.stack<=256){q:Nat}(hq:q∈nxt at_ i){s:List Int × List Nat}(hr:rch hs td q (hgt fs i x0)=some s):HQ fs f at_ i x0 (q :: dn) (dnH s.1) sn∧Tdo f s.1 s.2 sn:=by
 have hl:hs.length=f.code.length:=by have:=h.hl;simpa using this
 have hpos:=h.pos;unfold rch at hr;rcases e:hs[q]? with _ | y
 ·rw[e] at hr;cases hr
 ·rw[e] at hr;have hr':(if y=0 then some (hs.set q (hgt fs i x0+1),td ++ [q]) else if y - 1=hgt fs i x0 then some (hs,td) else none)=some s:=hr;have hql:=(List.getElem?_eq_some_iff.1 e).1;split at hr'
  ·rename_i y0;cases hr';subst y0;have hsf:sn[q]?=some false:=by
    rcases e2:sn[q]? with _ | b
    ·have:=List.getElem?_eq_none_iff.1 e2;have:=h.sl;omega
    ·cases b with
     | false=>rfl
     | true=>
      have hd:=dnH_get e;by_cases ea:q=at_
      ·rw[ea,h.cx] at hd;have:=h.c0;have h5:=Option.some.inj hd;omega
      ·obtain⟨j,z,a1,a2,a3,-⟩:=h.seen q ea e2;rw[hd] at a2;have h5:=Option.some.inj a2;omega
   have hnt:q ∉ td:=fun hm=>by
    obtain⟨⟨x,h1,h2⟩,-⟩:=ht.td_ q hm;rw[e] at h1;have h5:=Option.some.inj h1;omega
   refine⟨?_,fun n hn=>?_,?_,fun p x hp hx=>?_,?_⟩
   ·show HQ fs f at_ i x0 (q :: dn) (dnH (hs.set q (hgt fs i x0+1))) sn;rw[U6];exact h.set hst hq (dnH_get e) (by omega)
   ·show (∃x,(hs.set q (hgt fs i x0+1))[n]?=some x∧1<=x)∧_;have hn':n∈td ++ [q]:=hn;rcases List.mem_append.1 hn' with hn | hn
    ·obtain⟨⟨x,h1,h2⟩,h3⟩:=ht.td_ n hn;exact⟨⟨x,by rw[List.getElem?_set_ne (by rintro rfl;exact hnt hn)];exact h1,h2⟩,h3⟩
    ·simp at hn;subst hn;exact⟨⟨_,List.getElem?_set_self hql,by omega⟩,hsf⟩
   ·show (td ++ [q]).Nodup;rw[List.nodup_append];refine⟨ht.nd,by simp,fun a ha b hb=>?_⟩;simp at hb;subst hb;rintro rfl;exact hnt ha
   ·have hp':(hs.set q (hgt fs i x0+1))[p]?=some x:=hp;by_cases ep:q=p
    ·subst ep;exact Or.inr (List.mem_append.2 (Or.inr (by simp)))
    ·rw[List.getElem?_set_ne ep] at hp';rcases ht.cov p x hp' hx with h1 | h1
     ·exact Or.inl h1
     ·exact Or.inr (List.mem_append.2 (Or.inl h1))
   ·have h1:=ht.few;have h2:=Kh hs q (hgt fs i x0+1) e (by omega);show (td ++ [q]).length+zrs (hs.set q (hgt fs i x0+1))<=_;rw[List.length_append,List.length_singleton];omega
  ·split at hr'
   ·rename_i y1;cases hr';exact⟨h.old (by rw[<-y1];exact dnH_get e),ht⟩
   ·cases hr'
theorem O7{fs:List Fu}{f:Fu}{at_:Nat}{i:In}{x0:Int}{sn:List Bool}(hst:f.stack<=256):∀(l:List Nat) {dn:List Nat} {hs:List Int} {td:List Nat},(∀q∈l,q∈nxt at_ i)->HQ fs f at_ i x0 dn (dnH hs) sn->Tdo f hs td sn->Ej (hgt fs i x0) hs td l=none->¬Bo fs f
 | [],dn,hs,td,hm,h,ht,hr=>by cases hr
 | q :: r,dn,hs,td,hm,h,ht,hr=>by
  rw[Ej] at hr;rcases e:rch hs td q (hgt fs i x0) with _ | s
  ·exact W4 h (hm q (by simp)) e
  ·rw[e] at hr;obtain⟨h1,h2⟩:=O6 h ht hst (hm q (by simp)) e;exact O7 hst r (fun q' hq'=>hm q' (by simp[hq'])) h1 h2 hr
theorem Ll{fs:List Fu}{f:Fu}{at_:Nat}{i:In}{x0:Int}{sn:List Bool}(hst:f.stack<=256):∀(l:List Nat) {dn:List Nat} {hs:List Int} {td:List Nat} {s:List Int × List Nat},(∀q∈l,q∈nxt at_ i)->HQ fs f at_ i x0 dn (dnH hs) sn->Tdo f hs td sn->Ej (hgt fs i x0) hs td l=some s->(∃dn',HQ fs f at_ i x0 dn' (dnH s.1) sn∧(∀q∈l,q∈dn')∧∀q∈dn,q∈dn')∧Tdo f s.1 s.2 sn
 | [],dn,hs,td,s,hm,h,ht,hr=>by
  cases hr
  exact⟨⟨dn,h,fun q hq=>by simp at hq,fun q hq=>hq⟩,ht⟩
 | q :: r,dn,hs,td,s,hm,h,ht,hr=>by
  rw[Ej] at hr;rcases e:rch hs td q (hgt fs i x0) with _ | s1
  ·rw[e] at hr;cases hr
  ·rw[e] at hr;obtain⟨h1,h2⟩:=O6 h ht hst (hm q (by simp)) e;obtain⟨⟨dn',h3,h4,h5⟩,h6⟩:=Ll hst r (fun q' hq'=>hm q' (by simp[hq'])) h1 h2 hr;refine⟨⟨dn',h3,fun q' hq'=>?_,fun q' hq'=>h5 q' (by simp[hq'])⟩,h6⟩;rcases List.mem_cons.1 hq' with rfl | hq'
   ·exact h5 _ (by simp)
   ·exact h4 q' hq'
structure WInv(fs:List Fu)(f:Fu)(hs:List Int)(td:List Nat)(sn:List Bool):Prop where
 inv:HInv fs f (dnH hs) sn
 tdo:Tdo f hs td sn
theorem WInv.len{fs:List Fu}{f:Fu}{hs:List Int}{td:List Nat}{sn:List Bool}(h:WInv fs f hs td sn):hs.length=f.code.length:=by have:=h.inv.hl;simpa using this
theorem WInv.init{fs:List Fu}{f:Fu}(h:1<=f.code.length):WInv fs f ((List.replicate f.code.length 0).set 0 1) [0] (List.replicate f.code.length false):=by
 have e:dnH ((List.replicate f.code.length 0).set 0 1)=(List.replicate f.code.length (-1)).set 0 0:=by
  rw[dnH,List.map_set,List.map_replicate];rfl
 have hg:∀(p:Nat) (x:Int),((List.replicate f.code.length (0:Int)).set 0 1)[p]?=some x->1<=x->p=0:=fun p x hp hx=>by
  by_cases e:0=p
  ·exact e.symm
  ·rw[List.getElem?_set_ne e,List.getElem?_replicate] at hp;split at hp
   ·have h5:=Option.some.inj hp;omega
   ·cases hp
 refine⟨by rw[e];exact HInv.init h,fun n hn=>?_,by simp,fun p x hp hx=>Or.inr (by rw[hg p x hp hx];simp),?_⟩
 ·simp at hn;subst hn;exact⟨⟨1,List.getElem?_set_self (by simp;omega),by omega⟩,by rw[List.getElem?_replicate,if_pos (by omega)]⟩
 ·have h2:=Kh (List.replicate f.code.length (0:Int)) 0 1 (by rw[List.getElem?_replicate,if_pos (by omega)]) (by omega);have h3:zrs (List.replicate f.code.length (0:Int))<=f.code.length:=by
   unfold zrs;exact Nat.le_trans (List.length_filter_le _ _) (by simp)
  simp only[List.length_singleton];omega
theorem WInv.done{fs:List Fu}{f:Fu}{hs:List Int}{sn:List Bool}(h:WInv fs f hs [] sn):Bo fs f:=
 h.inv.done (fun p x hp hx=>by
  rcases h.tdo.cov p (x+1) (dnH_of hp) (by omega) with h1 | h1
  ·exact h1
  ·simp at h1)
theorem WInv.top{fs:List Fu}{f:Fu}{hs:List Int}{td:List Nat}{at_:Nat}{sn:List Bool}(h:WInv fs f hs (td ++ [at_]) sn):∃y i,hs[at_]?=some y∧1<=y∧y<=257∧f.code[at_]?=some i∧sn[at_]?=some false:=by
 obtain⟨⟨y,h1,h2⟩,h3⟩:=h.tdo.td_ at_ (by simp);have h4:=(h.inv.low _ _ (dnH_get h1)).2;have h5:=h.len;have h6:=(List.getElem?_eq_some_iff.1 h1).1;exact⟨y,f.code[at_]'(by omega),h1,h2,by omega,List.getElem?_eq_getElem _,h3⟩
theorem WInv.bad{fs:List Fu}{f:Fu}{hs:List Int}{td:List Nat}{sn:List Bool}(h:WInv fs f hs td sn){at_:Nat}{i:In}{y:Int}(hy:hs[at_]?=some y)(h1:1<=y)(hc:f.code[at_]?=some i)(hb:¬0<=y - 1 - popN fs i∨¬hgt fs i (y - 1)<=f.stack):¬Bo fs f:=
 Ic h.inv (dnH_get hy) (by omega) hc hb
theorem Tdo.pop{f:Fu}{hs:List Int}{td:List Nat}{at_:Nat}{sn:List Bool}(h:Tdo f hs (td ++ [at_]) sn):Tdo f hs td (sn.set at_ true):=by
 have hnd:=List.nodup_append.1 h.nd;refine⟨fun n hn=>?_,hnd.1,fun p x hp hx=>?_,?_⟩
 ·obtain⟨h1,h2⟩:=h.td_ n (by simp[hn]);refine⟨h1,?_⟩;rw[List.getElem?_set_ne]
  ·exact h2
  ·rintro rfl;exact hnd.2.2 _ hn _ (by simp) rfl
 ·by_cases e:p=at_
  ·subst e;obtain⟨-,h2⟩:=h.td_ p (by simp);exact Or.inl (by rw[List.getElem?_set_self (List.getElem?_eq_some_iff.1 h2).1])
  ·rcases h.cov p x hp hx with h1 | h1
   ·exact Or.inl (by rw[List.getElem?_set_ne (Ne.symm e)];exact h1)
   ·rcases List.mem_append.1 h1 with h1 | h1
    ·exact Or.inr h1
    ·simp at h1;exact absurd h1 e
 ·have:=h.few;rw[List.length_append,List.length_singleton] at this;omega
theorem WInv.none{fs:List Fu}{f:Fu}{hs:List Int}{td:List Nat}{at_:Nat}{sn:List Bool}(h:WInv fs f hs (td ++ [at_]) sn)(hst:f.stack<=256){i:In}{y:Int}(hy:hs[at_]?=some y)(h1:1<=y)(hc:f.code[at_]?=some i)(x1:0<=y - 1 - popN fs i)(x3:hgt fs i (y - 1)<=f.stack)(hr:Ej (hgt fs i (y - 1)) hs td (lnx at_ i)=none):¬Bo fs f:=
 O7 hst _ (fun q hq=>Kg.1 hq) (h.inv.intoQ (dnH_get hy) (by omega) hc x1 x3) h.tdo.pop hr
theorem WInv.next{fs:List Fu}{f:Fu}{hs:List Int}{td:List Nat}{at_:Nat}{sn:List Bool}(h:WInv fs f hs (td ++ [at_]) sn)(hst:f.stack<=256){i:In}{y:Int}(hy:hs[at_]?=some y)(h1:1<=y)(hc:f.code[at_]?=some i)(x1:0<=y - 1 - popN fs i)(x3:hgt fs i (y - 1)<=f.stack){s:List Int × List Nat}(hr:Ej (hgt fs i (y - 1)) hs td (lnx at_ i)=some s):WInv fs f s.1 s.2 (sn.set at_ true)∧left (sn.set at_ true)<left sn:=by
 obtain⟨⟨dn',h3,h4,-⟩,h6⟩:=Ll hst _ (fun q hq=>Kg.1 hq) (h.inv.intoQ (dnH_get hy) (by omega) hc x1 x3) h.tdo.pop hr;refine⟨⟨h3.out (fun q hq=>h4 q (Kg.2 hq)),h6⟩,?_⟩;obtain⟨-,h7⟩:=h.tdo.td_ at_ (by simp);have:=Id sn at_ h7;omega
end
end Go.Proofs.YtnijcolomoobnaaGreatDoor
