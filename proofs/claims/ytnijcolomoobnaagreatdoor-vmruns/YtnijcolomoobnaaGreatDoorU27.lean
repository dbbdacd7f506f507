/- Texts of ours, joined. -/
import Derived.Test.YtnijcolomoobnaaGreatDoorU25
set_option linter.unusedVariables false
set_option linter.unusedSimpArgs false
set_option maxRecDepth 100000
set_option maxHeartbeats 16000000
namespace Go.Proofs.YtnijcolomoobnaaGreatDoor
section
def Av(l:List V):Prop:=∀x∈l,Snd x
theorem Av.get{l:List V}(h:Av l){j:Nat}(hj:j<l.length):Snd (l.getD j zV):=by
 rw[List.getD_eq_getElem?_getD,List.getElem?_eq_getElem hj];exact h _ (List.getElem_mem hj)
theorem Av.app{a b:List V}(ha:Av a)(hb:Av b):Av (a ++ b):=fun x hx=>by
 rcases List.mem_append.1 hx with hx | hx
 ·exact ha x hx
 ·exact hb x hx
theorem Av.one{x:V}(h:Snd x):Av [x]:=fun y hy=>by simp at hy;subst hy;exact h
theorem Av.set{l:List V}(h:Av l){x:V}(hx:Snd x)(j:Nat):Av (l.set j x):=fun y hy=>by
 rcases List.mem_or_eq_of_mem_set hy with hy | rfl
 ·exact h y hy
 ·exact hx
theorem Av.take{l:List V}(h:Av l)(j:Nat):Av (l.take j):=fun y hy=>h y (List.mem_of_mem_take hy)
theorem Av.drop{l:List V}(h:Av l)(j:Nat):Av (l.drop j):=fun y hy=>h y (List.mem_of_mem_drop hy)
theorem Vq{it:Int->List UInt8}(hit:∀n,(it n).length<=256){fs:List Fu}{i:In}{v:List V}(hv:Av v)(h12:12<=i.op)(h21:i.op<=21)(hn:(v.length:Int)=popN fs i)(h:(opV it i v).2=0):Snd (opV it i v).1:=by
 have hc:i.op=12∨i.op=13∨i.op=14∨i.op=15∨i.op=16∨i.op=17∨i.op=18∨i.op=19∨i.op=20∨i.op=21:=by omega
 have hpop:(i.op=20->v.length=3)∧(i.op=12∨i.op=17∨i.op=18∨i.op=19∨i.op=21->v.length=2)∧(i.op=13∨i.op=14∨i.op=15∨i.op=16->v.length=1):=by
  unfold popN Eh F0 at hn;refine⟨fun e=>?_,fun e=>?_,fun e=>?_⟩
  ·rw[e] at hn;simp at hn;omega
  ·rcases e with e | e | e | e | e <;> rw[e] at hn <;> simp at hn <;> omega
  ·rcases e with e | e | e | e <;> rw[e] at hn <;> simp at hn <;> omega
 unfold opV at h ⊢;rcases hc with e | e | e | e | e | e | e | e | e | e
 ·simp only[e,if_pos] at h ⊢;exact Vm h
 ·simp only[e] at h ⊢;simp at h ⊢;exact Vn h
 ·simp only[e] at h ⊢;simp at h ⊢;exact L8 _
 ·simp only[e] at h ⊢;simp at h ⊢;exact L9 _
 ·simp only[e] at h ⊢;simp at h ⊢;split
  ·exact snd_t (hit _)
  ·rename_i c;rw[if_neg c] at h;simp at h
 ·simp only[e] at h ⊢;simp at h ⊢;exact L8 _
 ·have h0:=hv.get (j:=0) (by have:=hpop.2.1 (by omega);omega);simp only[e] at h ⊢;simp only[List.getD_eq_getElem?_getD] at h h0 ⊢;simp at h ⊢;exact Xe h0 h
 ·have h0:=hv.get (j:=0) (by have:=hpop.2.1 (by omega);omega);have h1:=hv.get (j:=1) (by have:=hpop.2.1 (by omega);omega);simp only[e] at h ⊢;simp only[List.getD_eq_getElem?_getD] at h h0 h1 ⊢;simp at h ⊢;exact Tf h0 h1 h
 ·have h0:=hv.get (j:=0) (by have:=hpop.1 (by omega);omega);have h1:=hv.get (j:=1) (by have:=hpop.1 (by omega);omega);have h2:=hv.get (j:=2) (by have:=hpop.1 (by omega);omega);simp only[e] at h ⊢;simp only[List.getD_eq_getElem?_getD] at h h0 h1 h2 ⊢;simp at h ⊢;exact Vo h0 h1 h2 h
 ·have h0:=hv.get (j:=0) (by have:=hpop.2.1 (by omega);omega);simp only[e] at h ⊢;simp only[List.getD_eq_getElem?_getD] at h h0 ⊢;simp at h ⊢;exact Vp h0 h
def Yg(m:Md)(states:Int)(f:Fu):Nx->Prop
 | .done o=>o.trap=0->Snd o.val∧Av o.sts∧(o.sts.length:Int)=states
 | .go p loc stk sts fl=>Av loc∧(loc.length:Int)=f.locals∧Av stk∧Av sts∧(sts.length:Int)=states
 | .call k lk s fl=>∃f',m.funcs[k]?=some f'∧Av lk∧(lk.length:Int)=f'.locals∧Av s
 | .bad=>True
theorem Ph{it:Int->List UInt8}(hit:∀n,(it n).length<=256){m:Md}{states:Int}(hr:Run m states)(hcon:Av m.consts){n:Nat}{f:Fu}(hf:m.funcs[n]?=some f){i:In}(hi:i∈f.code){p:Nat}{loc s v sts:List V}{fl:Int}(hl:Av loc)(hll:(loc.length:Int)=f.locals)(hs:Av s)(hv:Av v)(hvl:(v.length:Int)=popN m.funcs i)(hst:Av sts)(hsl:(sts.length:Int)=states):Yg m states f (vmI it m i p loc s v sts fl):=by
 have hio:=(hr.fun_ n f hf).ins i hi;obtain⟨q1,q2,q3,q4⟩:=Au.1 hio;have hlow:i.op≠12->0<=i.a:=fun h=>by
  unfold Bc at q3;rw[if_neg (by simpa using h)] at q3;exact q3
 have hv1:i.op=3∨i.op=5∨i.op=10->v.length=1:=fun e=>by
  unfold popN Eh at hvl;rcases e with e | e | e <;> rw[e] at hvl <;> simp at hvl <;> omega
 unfold vmI;by_cases c1:i.op=1
 ·simp only[if_pos c1];have ha:=hlow (by omega);unfold Bx at q4;rw[c1] at q4;simp at q4;exact⟨hl,hll,hs.app (Av.one (hcon.get (by omega))),hst,hsl⟩
 simp only[if_neg c1];by_cases c2:i.op=2
 ·simp only[if_pos c2];have ha:=hlow (by omega);unfold Bx at q4;rw[c2] at q4;simp at q4;exact⟨hl,hll,hs.app (Av.one (hl.get (by omega))),hst,hsl⟩
 simp only[if_neg c2];by_cases c3:i.op=3
 ·simp only[if_pos c3];exact⟨hl.set (hv.get (by have:=hv1 (by omega);omega)) _,by rw[List.length_set];exact hll,hs,hst,hsl⟩
 simp only[if_neg c3];by_cases c4:i.op=4
 ·simp only[if_pos c4];have ha:=hlow (by omega);unfold Bx at q4;rw[c4] at q4;simp at q4;exact⟨hl,hll,hs.app (Av.one (hst.get (by omega))),hst,hsl⟩
 simp only[if_neg c4];by_cases c5:i.op=5
 ·simp only[if_pos c5];exact⟨hl,hll,hs,hst.set (hv.get (by have:=hv1 (by omega);omega)) _,by rw[List.length_set];exact hsl⟩
 simp only[if_neg c5];by_cases c6:i.op=6
 ·simp only[if_pos c6];exact⟨hl,hll,hs,hst,hsl⟩
 simp only[if_neg c6];by_cases c7:i.op=8∧(v.getD 0 zV).k≠2
 ·simp only[if_pos c7];intro h;cases h
 simp only[if_neg c7];by_cases c8:i.op=7∨(i.op=8∧(v.getD 0 zV).n=0)
 ·simp only[if_pos c8];by_cases ca:i.a<=p
  ·simp only[if_pos ca];by_cases cf:fl<1
   ·simp only[if_pos cf];intro h;cases h
   ·simp only[if_neg cf];exact⟨hl,hll,hs,hst,hsl⟩
  ·simp only[if_neg ca];exact⟨hl,hll,hs,hst,hsl⟩
 simp only[if_neg c8];by_cases c9:i.op=8
 ·simp only[if_pos c9];exact⟨hl,hll,hs,hst,hsl⟩
 simp only[if_neg c9];by_cases c10:i.op=9
 ·simp only[if_pos c10];by_cases cf:fl<1
  ·simp only[if_pos cf];intro h;cases h
  ·simp only[if_neg cf];rcases hf':m.funcs[i.a.toNat]? with _ | f'
   ·trivial
   ·have hnum:=(hr.fun_ _ f' hf').num;unfold A8 at hnum;have hvp:(v.length:Int)=f'.params:=by
     rw[hvl];unfold popN Eh F0;rw[c10];simp[hf']
    refine⟨f',hf',?_,?_,hs⟩
    ·unfold loc0;refine hv.app (fun x hx=>?_);rw[(List.mem_replicate.1 hx).2];exact L9 0
    ·unfold loc0;rw[List.length_append,List.length_replicate];omega
 simp only[if_neg c10];by_cases c11:i.op=10
 ·simp only[if_pos c11];exact fun _=>⟨hv.get (by have:=hv1 (by omega);omega),hst,hsl⟩
 simp only[if_neg c11];by_cases c12:i.op=11
 ·simp only[if_pos c12];by_cases cf:fl<i.a
  ·simp only[if_pos cf];intro h;cases h
  ·simp only[if_neg cf];exact⟨hl,hll,hs,hst,hsl⟩
 simp only[if_neg c12];by_cases c13:(opV it i v).2≠0
 ·simp only[if_pos c13];exact fun h=>absurd h c13
 ·simp only[if_neg c13];exact⟨hl,hll,hs.app (Av.one (Vq hit hv (by omega) q2 hvl (Classical.not_not.1 c13))),hst,hsl⟩
theorem Gq{it:Int->List UInt8}(hit:∀n,(it n).length<=256){m:Md}{states:Int}(hr:Run m states)(hcon:Av m.consts):∀(g:Nat) {n:Nat} {f:Fu} {H:Nat->Option Int} {p:Nat} {loc stk sts:List V} {fl:Int} {o:VOut},m.funcs[n]?=some f->Lab m.funcs f H->H p=some (stk.length:Int)->0<=fl->Av loc->(loc.length:Int)=f.locals->Av stk->Av sts->(sts.length:Int)=states->vmRun it m g n p loc stk sts fl=some o->o.trap=0->Snd o.val∧Av o.sts∧(o.sts.length:Int)=states
 | 0,n,f,H,p,loc,stk,sts,fl,o,hf,hH,hp,h0,hl,hll,hs,hst,hsl,h,ht=>by rw[vmRun] at h;cases h
 | g+1,n,f,H,p,loc,stk,sts,fl,o,hf,hH,hp,h0,hl,hll,hs,hst,hsl,h,ht=>by
  have hw:∀f∈m.funcs,∀i∈f.code,InW i:=fun f hf i hi=>by
   obtain⟨k,hk⟩:=List.mem_iff_getElem?.1 hf;exact ((hr.fun_ k f hk).ins i hi).w
  rw[vmRun] at h;obtain⟨i,hc,a1,a2,a3⟩:=hH.step p _ hp;have him:=List.mem_of_getElem? hc;have hiw:=hw f (List.mem_of_getElem? hf) i him;have hpop:0<=popN m.funcs i:=by
   unfold popN;split
   ·omega
   split
   ·omega
   split
   ·omega
   split
   ·rename_i h9;rcases hg:m.funcs[i.a.toNat]? with _ | f'
    ·simp
    ·have:=(hr.fun_ _ f' hg).num;unfold A8 at this;simpa using this.1
   ·omega
  have hb:(m.funcs[n]?).bind (fun f=>f.code[p]?)=some i:=by rw[hf];exact hc
  have hN:vmN it m n p loc stk sts fl=vmI it m i p loc (stk.take (stk.length - (popN m.funcs i).toNat)) (stk.drop (stk.length - (popN m.funcs i).toNat)) sts fl:=by unfold vmN;rw[hb]
  have hsl2:((stk.take (stk.length - (popN m.funcs i).toNat)).length:Int)=stk.length - popN m.funcs i:=by
   rw[List.length_take];omega
  have hvl:((stk.drop (stk.length - (popN m.funcs i).toNat)).length:Int)=popN m.funcs i:=by
   rw[List.length_drop];omega
  have hok:=Ph (p:=p) (fl:=fl) hit hr hcon hf him hl hll (hs.take (stk.length - (popN m.funcs i).toNat)) (hs.drop (stk.length - (popN m.funcs i).toNat)) hvl hst hsl;rw[hN] at h;rcases hx:vmI it m i p loc (stk.take (stk.length - (popN m.funcs i).toNat)) (stk.drop (stk.length - (popN m.funcs i).toNat)) sts fl with o' | ⟨p',loc',stk',sts',fl'⟩ | ⟨q,lk,s,fl'⟩ | _
  all_goals rw[hx] at h hok
  ·have e:o'=o:=Option.some.inj h;subst e;exact hok ht
  ·obtain⟨b1,b2,b3,b4,b5⟩:=Gp hiw h0 hx;obtain⟨d1,d2,d3,d4,d5⟩:=hok;have hH':H p'=some (stk'.length:Int):=by
    rw[a3 p' b1,b2,hsl2];rfl
   exact Gq hit hr hcon g hf hH hH' b4 d1 d2 d3 d4 d5 h ht
  ·obtain⟨b1,b2,b3,b4,b5,f',b6,b7⟩:=D6 hx;obtain⟨f2,d1,d2,d3,d4⟩:=hok;rw[b6] at d1;have e2:f'=f2:=Option.some.inj d1;subst e2;have h':(match vmRun it m g q 0 lk [] sts fl' with
    | none=>none
    | some o=>if o.trap≠0 then some o else vmRun it m g n (p+1) loc (s ++ [o.val]) o.sts o.fuel)=some o:=h
   rcases ho:vmRun it m g q 0 lk [] sts fl' with _ | o'
   ·rw[ho] at h';cases h'
   rw[ho] at h';have h6:(if o'.trap≠0 then some o' else vmRun it m g n (p+1) loc (s ++ [o'.val]) o'.sts o'.fuel)=some o:=h';by_cases c:o'.trap≠0
   ·rw[if_pos c] at h6;have e:o'=o:=Option.some.inj h6;subst e;exact absurd ht c
   ·rw[if_neg c] at h6;obtain⟨H',hH'⟩:=(hr.fun_ q f' b6).walk;obtain⟨s1,s2,s3⟩:=Gq hit hr hcon g b6 hH' hH'.zero b5 d2 d3 (fun x hx=>by simp at hx) hst hsl ho (Classical.not_not.1 c);obtain⟨c1,c2,-⟩:=Dx hw g b5 ho;have hnx:p+1∈nxt p i:=by
     unfold nxt;rw[if_neg (show ¬(i.op=7∨i.op=10) by omega)];simp
    have hps:psh i.op=1:=by rw[b1];simp[psh,pshB]
    have hH2:H (p+1)=some ((s ++ [o'.val]).length:Int):=by
     rw[a3 _ hnx,b3,List.length_append];unfold hgt;rw[hps];simp only[List.length_singleton];congr 1;omega
    exact Gq hit hr hcon g hf hH hH2 c1 hl hll (d4.app (Av.one s1)) s2 s3 h6 ht
  ·cases h
structure Vst(m:Md)(states:Int)(n:Nat)(f:Fu)(H:Nat->Option Int)(p:Nat)(loc stk sts:List V)(fl:Int):Prop where
 hf:m.funcs[n]?=some f
 lab:Lab m.funcs f H
 hp:H p=some (stk.length:Int)
 f0:0<=fl
 sloc:Av loc
 ll:(loc.length:Int)=f.locals
 sstk:Av stk
 ssts:Av sts
 sl:(sts.length:Int)=states
 top:stk.length<=256
abbrev A2(m:Md)(i:In)(stk:List V):List V:=stk.take (stk.length - (popN m.funcs i).toNat)
abbrev Dd(m:Md)(i:In)(stk:List V):List V:=stk.drop (stk.length - (popN m.funcs i).toNat)
theorem Fd{m:Md}{states:Int}(hr:Run m states):∀f∈m.funcs,∀i∈f.code,InW i:=fun f hf i hi=>by
 obtain⟨k,hk⟩:=List.mem_iff_getElem?.1 hf;exact ((hr.fun_ k f hk).ins i hi).w
theorem Tg{m:Md}{states:Int}(hr:Run m states)(i:In):0<=popN m.funcs i:=by
 unfold popN;split
 ·omega
 split
 ·omega
 split
 ·omega
 split
 ·rename_i h9;rcases hg:m.funcs[i.a.toNat]? with _ | f'
  ·simp
  ·have:=(hr.fun_ _ f' hg).num;unfold A8 at this;simpa using this.1
 ·omega
theorem Vst.ins{it:Int->List UInt8}{m:Md}{states:Int}(hr:Run m states){n:Nat}{f:Fu}{H:Nat->Option Int}{p:Nat}{loc stk sts:List V}{fl:Int}(h:Vst m states n f H p loc stk sts fl):∃i,f.code[p]?=some i∧Do m.consts.length states n f i∧((A2 m i stk).length:Int)=stk.length - popN m.funcs i∧((Dd m i stk).length:Int)=popN m.funcs i∧0<=popN m.funcs i∧popN m.funcs i<=stk.length∧hgt m.funcs i stk.length<=256∧(∀q∈nxt p i,H q=some (hgt m.funcs i stk.length))∧vmN it m n p loc stk sts fl=vmI it m i p loc (A2 m i stk) (Dd m i stk) sts fl:=by
 obtain⟨i,hc,a1,a2,a3⟩:=h.lab.step p _ h.hp;have him:=List.mem_of_getElem? hc;have hpop:=Tg hr i;have hb:(m.funcs[n]?).bind (fun f=>f.code[p]?)=some i:=by rw[h.hf];exact hc
 have hnum:=(hr.fun_ n f h.hf).num;unfold A8 at hnum;exact⟨i,hc,(hr.fun_ n f h.hf).ins i him,by rw[List.length_take];omega,by rw[List.length_drop];omega,hpop,by omega,by omega,a3,by unfold vmN;rw[hb]⟩
theorem Vst.step{it:Int->List UInt8}(hit:∀n,(it n).length<=256){m:Md}{states:Int}(hr:Run m states)(hcon:Av m.consts){n:Nat}{f:Fu}{H:Nat->Option Int}{p:Nat}{loc stk sts:List V}{fl:Int}(h:Vst m states n f H p loc stk sts fl){i:In}(hc:f.code[p]?=some i):Yg m states f (vmI it m i p loc (A2 m i stk) (Dd m i stk) sts fl):=by
 obtain⟨i',hc',a1,a2,a3,a4,-⟩:=h.ins (it:=it) hr;rw[hc] at hc';have e:i=i':=Option.some.inj hc';subst e;exact Ph (p:=p) (fl:=fl) hit hr hcon h.hf (List.mem_of_getElem? hc) h.sloc h.ll (h.sstk.take _) (h.sstk.drop _) a3 h.ssts h.sl
theorem Vst.go{it:Int->List UInt8}(hit:∀n,(it n).length<=256){m:Md}{states:Int}(hr:Run m states)(hcon:Av m.consts){n:Nat}{f:Fu}{H:Nat->Option Int}{p:Nat}{loc stk sts:List V}{fl:Int}(h:Vst m states n f H p loc stk sts fl){i:In}(hc:f.code[p]?=some i){p':Nat}{loc' stk' sts':List V}{fl':Int}(hx:vmI it m i p loc (A2 m i stk) (Dd m i stk) sts fl=.go p' loc' stk' sts' fl'):Vst m states n f H p' loc' stk' sts' fl':=by
 have hok:=h.step hit hr hcon hc;rw[hx] at hok;obtain⟨d1,d2,d3,d4,d5⟩:=hok;obtain⟨i',hc',a0,a1,a2,a3,a4,a5,a6,-⟩:=h.ins (it:=it) hr;rw[hc] at hc';have e:i=i':=Option.some.inj hc';subst e;obtain⟨b1,b2,b3,b4,b5⟩:=Gp (Fd hr f (List.mem_of_getElem? h.hf) i (List.mem_of_getElem? hc)) h.f0 hx;have hl:(stk'.length:Int)=hgt m.funcs i stk.length:=by rw[b2,a1];rfl
 exact⟨h.hf,h.lab,by rw[a6 p' b1,hl],b4,d1,d2,d3,d4,d5,by omega⟩
theorem Vst.call{it:Int->List UInt8}(hit:∀n,(it n).length<=256){m:Md}{states:Int}(hr:Run m states)(hcon:Av m.consts){n:Nat}{f:Fu}{H:Nat->Option Int}{p:Nat}{loc stk sts:List V}{fl:Int}(h:Vst m states n f H p loc stk sts fl){i:In}(hc:f.code[p]?=some i){k:Nat}{lk s:List V}{fl':Int}(hx:vmI it m i p loc (A2 m i stk) (Dd m i stk) sts fl=.call k lk s fl'):∃f' H',Vst m states k f' H' 0 lk [] sts fl':=by
 have hok:=h.step hit hr hcon hc;rw[hx] at hok;obtain⟨b1,b2,b3,b4,b5,f',b6,b7⟩:=D6 hx;obtain⟨f2,d1,d2,d3,d4⟩:=hok;obtain⟨H',hH'⟩:=(hr.fun_ k f2 d1).walk;exact⟨f2,H',d1,hH',hH'.zero,b5,d2,d3,(fun x hx=>by simp at hx),h.ssts,h.sl,by simp⟩
theorem Vst.back{it:Int->List UInt8}(hit:∀n,(it n).length<=256){m:Md}{states:Int}(hr:Run m states)(hcon:Av m.consts){n:Nat}{f:Fu}{H:Nat->Option Int}{p:Nat}{loc stk sts:List V}{fl:Int}(h:Vst m states n f H p loc stk sts fl){i:In}(hc:f.code[p]?=some i){k:Nat}{lk s:List V}{fl':Int}(hx:vmI it m i p loc (A2 m i stk) (Dd m i stk) sts fl=.call k lk s fl'){g:Nat}{o:VOut}(ho:vmRun it m g k 0 lk [] sts fl'=some o)(ht:o.trap=0):Vst m states n f H (p+1) loc (s ++ [o.val]) o.sts o.fuel:=by
 obtain⟨f',H',hv⟩:=h.call hit hr hcon hc hx;have hok:=h.step hit hr hcon hc;rw[hx] at hok;obtain⟨f2,d1,d2,d3,d4⟩:=hok;obtain⟨s1,s2,s3⟩:=Gq hit hr hcon g hv.hf hv.lab hv.hp hv.f0 hv.sloc hv.ll hv.sstk hv.ssts hv.sl ho ht;obtain⟨c1,c2,-⟩:=Dx (Fd hr) g hv.f0 ho;obtain⟨i',hc',a0,a1,a2,a3,a4,a5,a6,-⟩:=h.ins (it:=it) hr;rw[hc] at hc';have e:i=i':=Option.some.inj hc';subst e;obtain⟨b1,b2,b3,b4,b5,-⟩:=D6 hx;have hnx:p+1∈nxt p i:=by
  unfold nxt;rw[if_neg (show ¬(i.op=7∨i.op=10) by omega)];simp
 have hps:psh i.op=1:=by rw[b1];simp[psh,pshB]
 have hl:((s ++ [o.val]).length:Int)=hgt m.funcs i stk.length:=by
  unfold hgt;rw[hps,List.length_append];simp only[List.length_singleton];rw[b3]
  push_cast
  omega
 exact⟨h.hf,h.lab,by rw[a6 _ hnx,hl],c1,h.sloc,h.ll,d4.app (Av.one s1),s2,s3,by omega⟩
end
section
open Go.RowKit
attribute [local go_sem ↓] Go.wp_at_zero Go.wp_at_succ
def RmB(s:Nat)(r z:Int):Prop:=((s:Int)<=r->z=r - s)∧(¬(s:Int)<=r->z<0)∧-3000000<=z∧z<=r
def RmA(v:V)(r:Int)(e:Ending):Prop:=∃z:Int,e=.returned (iv z)∧RmB (wt v) r z
theorem Ti{l:List V}{q:Nat}{x:V}(h:l[q]?=some x):wts (l.take (q+1))=wts (l.take q)+wt x:=by
 induction l generalizing q with
 | nil=>simp at h
 | cons a r ih=>
  cases q with
  | zero=>simp at h;subst h;simp[wts]
  | succ q=>simp only[List.take_succ_cons,wts];rw[ih (by simpa using h)];omega
theorem Tj(l:List V)(q:Nat):wts (l.take q)<=wts l:=by
 induction l generalizing q with
 | nil=>simp
 | cons a r ih=>
  cases q with
  | zero=>simp[wts]
  | succ q=>simp only[List.take_succ_cons,wts];have:=ih q;omega
theorem Mh:∀(N:Nat) (v:V) (sl:Value) (B:Nat->Prop) (w:World) (r:Int),wt v<N->wt v<=1000000->0<=r->r<=16384->IsW B w v sl ->
  Calls Tryz.prog 21 #[.agg #[iv v.k,iv v.n,bz v.t,sl],iv r] w fun e w'=>RmA v r e∧Below w.heap.size w w'
 | 0,v,sl,B,w,r,h,_,_,_,_=>by omega
 | N+1,v,sl,B,w,r,hN,hwt,hr0,hr1,hv=>by
  obtain⟨ao,cap,rfl,hc1,hc2⟩:=hv.vs.slice;obtain⟨w0,hW,hb0,hsz,d0,d1,d2,d3⟩:=Aw w v (.slice ao v.l.length cap);have hgb:w.heap.size<w0.heap.size:=by omega
  have hwe:=Bw v;have hround:∀(q:Nat) (wr:World),q<v.l.length->Below w0.heap.size w0 wr ->
    ∃x g o ax cx,v.l[q]?=some x∧ao=some ⟨g,o,none⟩∧g<wr.heap.size∧wr.cell? ⟨g,o+q*4,none⟩=some (iv x.k)∧wr.cell? ⟨g,o+q*4+1,none⟩=some (iv x.n)∧wr.cell? ⟨g,o+q*4+2,none⟩=some (bz x.t)∧wr.cell? ⟨g,o+q*4+3,none⟩=some (.slice ax x.l.length cx) ∧
     ∀(z:Int) (w2:World),Below wr.heap.size wr w2->0<=z->z<=16384->Calls Tryz.prog 21 #[.agg #[iv x.k,iv x.n,bz x.t,.slice ax x.l.length cx],iv z] w2 fun e w'=>RmA x z e∧Below w2.heap.size w2 w':=by
   intro q wr hq hB;have hx:v.l[q]?=some v.l[q]:=List.getElem?_eq_getElem hq;have hBw:Below w.heap.size w wr:=hb0.trans (hB.mono (by omega));obtain⟨g,o,ax,cx,e,_,hg,c0,c1,c2,c3,hw⟩:=(hv.vs.below hBw).get hx;have hwx:wt v.l[q]<=wts v.l:=Iq (List.getElem_mem hq);exact⟨v.l[q],g,o,ax,cx,hx,e,hg,c0,c1,c2,c3,fun z w2 hb2 h1 h2=>Mh N _ _ B w2 z (by omega) (by omega) h1 h2 (hw.below hb2)⟩
  have hwp:∀q,wts (v.l.take q)<=wts v.l:=Tj v.l;obtain⟨tl,htl⟩:∃tl:Nat,v.t.length=tl:=⟨_,rfl⟩;have htlI:(tl:Int)<=1000000:=by omega
  have Hwe:Hid (wt v=1+tl+wts v.l):=by show _=_;rw[<-htl];exact hwe
  have Hwt:Hid (wt v<=1000000):=hwt;have Hwp:Hid (∀q,wts (v.l.take q)<=wts v.l):=hwp;have hsize:(v.t.toArray.size:Int)=tl:=by simp[htl]
  have hc3:(v.l.length:Int)<=1000000:=by have:=hwe;have:v.l.length<=wts v.l:=A4 v.l;omega
  clear hv hwe hwt hN hwp;go_enter Tryz.func21,Tryz.ntmps21;go_wp2_with fail
  go_loopg [1,16] v.l.length (fun g s i wr=>∃(q:Nat) (z:Int),q<=v.l.length∧g=v.l.length - q∧i=iv q∧s=iv z∧Hid (RmB (1+tl+wts (v.l.take q)) r z)∧-3000000<=z∧z<=16384∧Below w0.heap.size w0 wr)
  case atStart=>
   refine⟨0,r - (1+tl),Nat.zero_le _,rfl,rfl,rfl,?_,by omega,by omega,Below.refl _ _⟩;show RmB _ _ _;unfold RmB;simp only[List.take_zero,wts];omega
  case round=>
   obtain⟨q,z,hq,rfl,rfl,rfl,HR,hz1,hz2,hBr⟩:=hrel;have hBw:Below w.heap.size w wr:=hb0.trans (hBr.mono (by omega));by_cases hlt:q<v.l.length
   ·obtain⟨x,g,o,ax,cx,hx,rfl,hg,c0,c1,c2,c3,hcall⟩:=hround q wr hlt hBr;have hltI:(q:Int)<(v.l.length:Int):=by omega
    have hqI:(0:Int)<=(q:Int):=by omega
    have Hx:Hid (v.l[q]?=some x):=hx;have hba:Below wr.heap.size wr (wr.alloc (.cells #[iv x.k,iv x.n,bz x.t,.slice ax x.l.length cx] 31)):=(Below.refl _ _).alloc (Nat.le_refl _) _;clear hx hround;by_cases hz:z<0
    ·have hfin:Hid (RmB (wt v) r z):=by
      have:=HR.out;have h1:=Hwe.out;have h2:=Hwp.out q;show RmB _ _ _;unfold RmB at *;omega
     have hzb:decide (z<0)=true:=by simpa using hz
     clear hcall HR;go_wp2;go_ret;exact⟨⟨z,rfl,hfin.out⟩,hBw.trans (hba.mono hBw.size)⟩
    ·have hz0:0<=z:=by omega
     have hzb:decide (z<0)=false:=by simpa using hz
     have hc:=hcall z _ hba hz0 hz2;clear hcall;go_wp2_with fail;refine hc.mono ?_;rintro e w3 ⟨⟨z',rfl,hz'⟩,hb3⟩;clear hc c0 c1 c2 c3;have HR':Hid (RmB (1+tl+wts (v.l.take (q+1))) r z'):=by
      have:=HR.out;rw[Ti Hx.out];show RmB _ _ _;unfold RmB at *;omega
     have hz1':-3000000<=z':=hz'.2.2.1;have hz2':z'<=16384:=by have:=hz'.2.2.2;omega
     have hB3:Below w0.heap.size w0 w3:=hBr.trans ((hba.trans (hb3.mono hba.size)).mono hBr.size);clear hz' HR;go_wp2_with fail;go_roundg (v.l.length - (q+1))
     case measure=>omega
     case rel=>exact⟨q+1,z',by omega,rfl,by go_num,rfl,HR',hz1',hz2',hB3⟩
   ·have hltI:¬(q:Int)<(v.l.length:Int):=by omega
    have hqe:q=v.l.length:=by omega
    have hfin:Hid (RmB (wt v) r z):=by
     have:=HR.out;have h1:=Hwe.out;rw[hqe,List.take_length] at this;show RmB _ _ _;rw[h1];exact this
    clear hround HR hqe;go_wp2;go_ret;exact⟨⟨z,rfl,hfin.out⟩,hBw⟩
def A3(K:FuncId):Prop:=∀(args:Array Value) (wx:World),(callFunc K args).run Tryz.prog wx=.ok (.enter K args) wx
theorem F7:A3 9:=fun args wx=>by kernel_rfl
theorem Jl:A3 22:=fun args wx=>by kernel_rfl
def J3(K:FuncId)(B:Nat->Prop)(l:List V)(p:V->Bool):Prop:=∀(v:V) (sl:Value) (w:World),v∈l->IsW B w v sl ->
  Calls Tryz.prog K #[.agg #[iv v.k,iv v.n,bz v.t,sl]] w fun r w'=>r=.returned (.bool (p v))∧Below w.heap.size w w'
theorem Kz{K:FuncId}{B:Nat->Prop}{l:List V}{p:V->Bool}(hok:J3 K B l p)(hcf:A3 K){v:V}{sl:Value}{w:World}{g:Nat}(hm:v∈l)(hv:IsW B w v sl)(hg:w.cell? ⟨g,0,none⟩=some (.func (Fn.func K) #[] #[]))(hgl:g<w.heap.size) :
  Calls Tryz.prog 77 #[.agg #[iv v.k,iv v.n,bz v.t,sl],pt g 0] w fun r w'=>r=.returned (.bool (!p v))∧Below w.heap.size w w':=by
 obtain⟨ao,cap,rfl,hc1,hc2⟩:=hv.vs.slice;obtain⟨w0,hW,hb0,hsz,d0,d1,d2,d3⟩:=Aw w v (.slice ao v.l.length cap);have hg':w0.cell? ⟨g,0,none⟩=some (.func (Fn.func K) #[] #[]):=by rw[(Ag hb0).1 _ _ hgl];exact hg
 have hC:=hok v _ w0 hm (hv.below hb0);unfold A3 at hcf;clear hv hok hg hm;go_enter Tryz.func77,Tryz.ntmps77;go_wp2_with fail;refine hC.mono ?_;rintro e w3 ⟨rfl,hb3⟩;go_wp2;go_ret;exact⟨rfl,hb0.trans (hb3.mono hb0.size)⟩
theorem N1{K:FuncId}{B:Nat->Prop}{p:V->Bool}{l:List V}(hok:J3 K B l p)(hcf:A3 K){ao:Option Addr}{cap:Nat}{w:World}{g0:Nat}(hl:Al B w l (.slice ao l.length cap))(hg:w.cell? ⟨g0,0,none⟩=some (.func (Fn.func K) #[] #[]))(hgl:g0<w.heap.size) :
  Calls Tryz.prog 114 #[.slice ao l.length cap,.func (Fn.func 77) #[] #[pt g0 0]] w fun r w'=>(∃i:Int,r=.returned (iv i)∧decide (0<=i)=l.any (fun x=>!p x))∧Below w.heap.size w w':=by
 obtain⟨ao',cap',e,a1,a2⟩:=hl.slice;simp only[Value.slice.injEq] at e;obtain⟨rfl,-,rfl⟩:=e;have hround:∀(q:Nat) (wr:World),q<l.length->Below w.heap.size w wr ->
   ∃x g o ax cx,l[q]?=some x∧ao=some ⟨g,o,none⟩∧g<wr.heap.size∧wr.cell? ⟨g,o+q*4,none⟩=some (iv x.k)∧wr.cell? ⟨g,o+q*4+1,none⟩=some (iv x.n)∧wr.cell? ⟨g,o+q*4+2,none⟩=some (bz x.t)∧wr.cell? ⟨g,o+q*4+3,none⟩=some (.slice ax x.l.length cx) ∧
    Calls Tryz.prog 77 #[.agg #[iv x.k,iv x.n,bz x.t,.slice ax x.l.length cx],pt g0 0] wr fun r w'=>r=.returned (.bool (!p x))∧Below wr.heap.size wr w':=by
  intro q wr hq hB;have hx:l[q]?=some l[q]:=List.getElem?_eq_getElem hq;obtain⟨g,o,ax,cx,e,_,hg1,c0,c1,c2,c3,hw⟩:=(hl.below hB).get hx;have hs:=hB.size;exact⟨l[q],g,o,ax,cx,hx,e,hg1,c0,c1,c2,c3,Kz hok hcf (List.getElem_mem hq) hw (by rw[(Ag hB).1 _ _ hgl];exact hg) (by omega)⟩
 clear hok hl hg hcf;go_enter Tryz.func114,Tryz.ntmps114;go_wp2_with fail
 go_loopg [8] l.length (fun g i wr=>∃q:Nat,q<=l.length∧g=l.length - q∧i=iv q∧Hid (∀j x,j<q->l[j]?=some x->p x=true)∧Below w.heap.size w wr)
 case atStart=>exact⟨0,Nat.zero_le _,rfl,rfl,fun j x h=>by omega,Below.refl _ _⟩
 case round=>
  obtain⟨q,hq,rfl,rfl,HA,hB⟩:=hrel;by_cases hlt:q<l.length
  ·obtain⟨x,g,o,ax,cx,hx,rfl,hg,c0,c1,c2,c3,hcall⟩:=hround q wr hlt hB;have hltI:(q:Int)<(l.length:Int):=by omega
   have hx':Hid (l[q]?=some x):=hx;clear hround hx;go_wp2_with fail;refine hcall.mono ?_;rintro e w3 ⟨rfl,hb3⟩;clear hcall;have hB3:Below w.heap.size w w3:=hB.trans (hb3.mono hB.size);rcases hp:p x with _ | _
   ·have hfin:Hid (decide (0<=(q:Int))=l.any fun x=>!p x):=by
     show _=_;rw[decide_eq_true (by omega)];symm;rw[List.any_eq_true];exact⟨x,List.mem_of_getElem? hx'.out,by simp[hp]⟩
    go_wp2;go_ret;exact⟨⟨q,rfl,hfin⟩,hB3⟩
   ·have HA2:Hid (∀j x,j<q+1->l[j]?=some x->p x=true):=by
     intro j z hj hz;by_cases e:j=q
     ·subst e;rw[hx'.out] at hz;cases hz;exact hp
     ·exact HA.out j z (by omega) hz
    go_wp2_with fail
    go_roundg (l.length - (q+1))
    case measure=>omega
    case rel=>exact⟨q+1,by omega,rfl,by go_num,HA2,hB3⟩
  ·have hltI:¬(q:Int)<(l.length:Int):=by omega
   have hfin:Hid (decide (0<=(-1:Int))=l.any fun x=>!p x):=by
    show _=_;rw[decide_eq_false (by omega)];symm;rw[List.any_eq_false];intro x hx;obtain⟨j,hj⟩:=List.mem_iff_getElem?.1 hx;have:=(List.getElem?_eq_some_iff.1 hj).1;simp[HA.out j x (by omega) hj]
   clear hround HA;go_wp2;go_ret;exact⟨⟨-1,rfl,hfin⟩,hB⟩
theorem Jm{K:FuncId}{B:Nat->Prop}{p:V->Bool}{l:List V}(hok:J3 K B l p)(hcf:A3 K){ao:Option Addr}{cap:Nat}{w:World}{g0:Nat}(hl:Al B w l (.slice ao l.length cap))(hg:w.cell? ⟨g0,0,none⟩=some (.func (Fn.func K) #[] #[]))(hgl:g0<w.heap.size) :
  Calls Tryz.prog 76 #[.slice ao l.length cap,.func (Fn.func 77) #[] #[pt g0 0]] w fun r w'=>r=.returned (.bool (l.any (fun x=>!p x)))∧Below w.heap.size w w':=by
 have hC:=N1 hok hcf hl hg hgl;clear hok hl hg hcf;go_enter Tryz.func76,Tryz.ntmps76;go_wp2_with fail;refine hC.mono ?_;rintro e w3 ⟨⟨i,rfl,hi⟩,hb3⟩;clear hC;have Hi:Hid (decide (0<=i)=l.any fun x=>!p x):=hi;clear hi;go_wp2;go_ret;exact⟨ret_bool Hi.out,hb3⟩
theorem Fq{K:FuncId}{B:Nat->Prop}{p:V->Bool}{l:List V}(hok:J3 K B l p)(hcf:A3 K){ao:Option Addr}{cap:Nat}{w:World}(hl:Al B w l (.slice ao l.length cap)) :
  Calls Tryz.prog 36 #[.slice ao l.length cap,.func (Fn.func K) #[] #[]] w fun r w'=>r=.returned (.bool (l.all p))∧Below w.heap.size w w':=by
 have hb0:Below w.heap.size w (w.alloc (.cells #[.func (Fn.func K) #[] #[]] 32)):=(Below.refl _ _).alloc (Nat.le_refl _) _;have hC:=Jm (g0:=w.heap.size) hok hcf (hl.below hb0) (Ap (Ai w _)) (by simp);have hfin:Hid (l.all p=!(l.any (fun x=>!p x))):=by
  show _=_;rw[Bool.eq_iff_iff];simp
 clear hok hl hcf;generalize l.any (fun x=>!p x)=r at *;go_enter Tryz.func36,Tryz.ntmps36;go_wp2_with fail;refine hC.mono ?_;rintro e w3 ⟨rfl,hb3⟩;clear hC;go_wp2;go_ret;exact⟨ret_bool hfin.out.symm,hb0.trans (hb3.mono hb0.size)⟩
structure Fr(G:Nat->Prop)(w w':World):Prop where
 os:w'.os=w.os
 tape:w'.tape=w.tape
 output:w'.output=w.output
 size:w.heap.size<=w'.heap.size
 block:∀k,G k->k<w.heap.size->w'.heap[k]?=w.heap[k]?
theorem Fr.refl(G:Nat->Prop)(w:World):Fr G w w:=⟨rfl,rfl,rfl,Nat.le_refl _,fun _ _ _=>rfl⟩
theorem Fr.trans{G:Nat->Prop}{w w1 w2:World}(a:Fr G w w1)(b:Fr G w1 w2):Fr G w w2:=⟨b.os.trans a.os,b.tape.trans a.tape,b.output.trans a.output,Nat.le_trans a.size b.size,fun k h1 h2=>(b.block k h1 (Nat.lt_of_lt_of_le h2 a.size)).trans (a.block k h1 h2)⟩
theorem Fr.of_below{G:Nat->Prop}{w w':World}(h:Below w.heap.size w w'):Fr G w w':=⟨h.os,h.tape,h.output,h.size,fun k _ h1=>h.block k h1⟩
theorem Fr.below{G:Nat->Prop}{w w':World}(h:Fr G w w'){n:Nat}(hn:n<=w.heap.size)(hG:∀k,k<n->G k):Below n w w':=⟨h.os,h.tape,h.output,h.size,fun k hk=>h.block k (hG k hk) (by omega)⟩
theorem Fr.mono{G G':Nat->Prop}{w w':World}(h:Fr G w w')(hG:∀k,G' k->G k):Fr G' w w':=⟨h.os,h.tape,h.output,h.size,fun k hk=>h.block k (hG k hk)⟩
theorem Fr.set{G:Nat->Prop}{w:World}{g:Nat}(hg:¬G g)(o:Nat)(x:Value):Fr G w (w.setCell ⟨g,o,none⟩ x):=⟨rfl,rfl,rfl,by simp[World.setCell],fun k hk _=>Below.heap_setCell _ _ _ _ (by rintro rfl;exact hg hk)⟩
theorem Fr.grown{G:Nat->Prop}{w w':World}{row:Option Nat}(hg:w.grownBy w' row)(hr:∀k,row=some k->¬G k):Fr G w w':=⟨hg.os,hg.tape,hg.output,hg.size,fun k hk h1=>hg.block k h1 (fun e=>hr k e.symm hk)⟩
abbrev tI(td:List Nat):List Int:=td.map fun (n:Nat)=>(n:Int)
theorem Im(td:List Nat):(tI td).length=td.length:=List.length_map _
structure Wk(G:Nat->Prop)(p gh:Nat)(hs:List Int)(td:List Nat)(w:World):Prop where
 hk:El w gh hs
 bx:∃tv,w.heap[p]?=some (.cells #[sL gh 0 hs.length hs.length,tv] 152 (0,0))∧Bt 0 w tv (tI td)∧tv.ownBlock≠some p∧tv.ownBlock≠some gh∧∀k,tv.ownBlock=some k->¬G k
 np:¬G p
 ng:¬G gh
 pg:p≠gh
 gb:∀k,G k->k<w.heap.size
theorem Wk.keep{G:Nat->Prop}{p gh:Nat}{hs:List Int}{td:List Nat}{w w':World}(h:Wk G p gh hs td w)(hb:Below w.heap.size w w'):Wk G p gh hs td w':=by
 obtain⟨tv,b1,b2,b3,b4,b5⟩:=h.bx;exact⟨h.hk.keep (hb.block _ (Array.getElem?_eq_some_iff.1 h.hk).1),⟨tv,(hb.block _ (Array.getElem?_eq_some_iff.1 b1).1).trans b1,b2.since (fun j hj=>hb.block j (b2.lt hj).2),b3,b4,b5⟩,h.np,h.ng,h.pg,fun k hk=>Nat.lt_of_lt_of_le (h.gb k hk) hb.size⟩
theorem Wk.more{G:Nat->Prop}{p gh:Nat}{hs:List Int}{td:List Nat}{w w':World}(h:Wk G p gh hs td w)(hb:Below w.heap.size w w'){b:Nat}(h1:w.heap.size<=b)(h2:b<w'.heap.size):Wk (fun k=>G k∨k=b) p gh hs td w':=by
 have h':=h.keep hb;obtain⟨tv,b1,b2,b3,b4,b5⟩:=h.bx;obtain⟨tv',c1,c2,c3,c4,c5⟩:=h'.bx;have l1:=(Array.getElem?_eq_some_iff.1 b1).1;have l2:=(Array.getElem?_eq_some_iff.1 h.hk).1;have e:tv'=tv:=by
  rw[(hb.block _ l1).trans b1] at c1;simp only[Option.some.injEq,Obj.cells.injEq,Array.mk.injEq,List.cons.injEq] at c1;exact c1.1.2.1.symm
 subst e;refine⟨h'.hk,⟨tv',c1,c2,c3,c4,fun k hk=>?_⟩,?_,?_,h.pg,?_⟩
 ·rintro (hG | rfl)
  ·exact c5 k hk hG
  ·have:=(b2.lt hk).2;omega
 ·rintro (hG | rfl)
  ·exact h.np hG
  ·omega
 ·rintro (hG | rfl)
  ·exact h.ng hG
  ·omega
 ·rintro k (hG | rfl)
  ·exact h'.gb k hG
  ·exact h2
theorem Wk.less{G G':Nat->Prop}{p gh:Nat}{hs:List Int}{td:List Nat}{w:World}(h:Wk G p gh hs td w)(hG:∀k,G' k->G k):Wk G' p gh hs td w:=by
 obtain⟨tv,b1,b2,b3,b4,b5⟩:=h.bx;exact⟨h.hk,⟨tv,b1,b2,b3,b4,fun k hk hg=>b5 k hk (hG k hg)⟩,fun hg=>h.np (hG _ hg),fun hg=>h.ng (hG _ hg),h.pg,fun k hk=>h.gb k (hG k hk)⟩
theorem Fp{G:Nat->Prop}{p gh:Nat}{hs:List Int}{td:List Nat}{w:World}(h:Wk G p gh hs td w)(hlen:hs.length<=900000){q:Nat}{y:Int}(hy:hs[q]?=some y)(h0:0<=y∧y<=1000):Calls Tryz.prog 147 #[pt p 0,iv q] w fun e w'=>e=.returned (iv (y - 1))∧w'=w:=by
 obtain⟨tv,b1,b2,b3,b4,b5⟩:=h.bx;obtain⟨c0,c1,-,-,hlp⟩:=Ae b1;obtain⟨k0,k1,k2⟩:=h.hk.get hy;have hql:=(List.getElem?_eq_some_iff.1 hy).1;have hI:(q:Int)<(hs.length:Int):=by omega
 have hq0:(0:Int)<=(q:Int):=by omega
 obtain⟨l0,l1⟩:=h0;have hw:IntKind.i64.wrap (y - 1)=y - 1:=by rw[IntKind.wrap_i64];omega
 clear b1 b2 b3 b4 b5 h hy;go_enter Tryz.func147,Tryz.ntmps147;go_wp2;go_ret;exact⟨rfl,rfl⟩
def Mc(p:Nat)(w:World)(cs fs ss:Value)(fl tr:Int):Prop:=w.heap[p]?=some (.cells #[cs,fs,ss,iv fl,iv tr] 68 (0,0))
theorem Mc.keep{p:Nat}{w w':World}{cs fs ss:Value}{fl tr:Int}(h:Mc p w cs fs ss fl tr)(hb:w'.heap[p]?=w.heap[p]?):Mc p w' cs fs ss fl tr:=hb.trans h
theorem Mc.lt{p:Nat}{w:World}{cs fs ss:Value}{fl tr:Int}(h:Mc p w cs fs ss fl tr):p<w.heap.size:=(Array.getElem?_eq_some_iff.1 h).1
theorem Mc.below{p:Nat}{w w':World}{cs fs ss:Value}{fl tr:Int}(h:Mc p w cs fs ss fl tr)(hb:Below w.heap.size w w'):Mc p w' cs fs ss fl tr:=h.keep (hb.block _ h.lt)
theorem Mc.setT{p:Nat}{w:World}{cs fs ss:Value}{fl tr:Int}(h:Mc p w cs fs ss fl tr)(e:Int):Mc p (w.setCell ⟨p,4,none⟩ (iv e)) cs fs ss fl e:=by
 unfold Mc at *;simp[World.setCell,Array.getElem?_modify,h]
theorem Mc.setF{p:Nat}{w:World}{cs fs ss:Value}{fl tr:Int}(h:Mc p w cs fs ss fl tr)(e:Int):Mc p (w.setCell ⟨p,3,none⟩ (iv e)) cs fs ss e tr:=by
 unfold Mc at *;simp[World.setCell,Array.getElem?_modify,h]
theorem E5{p:Nat}{w:World}{cs fs ss:Value}{fl:Int}(h:Mc p w cs fs ss fl 0)(e:Int):Calls Tryz.prog 73 #[pt p 0,iv e] w fun r w'=>r=.returned (.tuple #[])∧w'=w.setCell ⟨p,4,none⟩ (iv e):=by
 obtain⟨c0,c1,c2,c3,c4,f0,f1,f2,f3,f4,hl⟩:=Ak h;clear h;go_enter Tryz.func73,Tryz.ntmps73;go_wp2
 go_end0
 exact⟨rfl,rfl⟩
theorem Nw{p:Nat}{w:World}{cs fs ss:Value}{fl tr:Int}(h:Mc p w cs fs ss fl tr)(ht:tr≠0)(n:Int):Calls Tryz.prog 74 #[pt p 0,iv n] w fun r w'=>r=.returned (.tuple #[])∧w'=w:=by
 obtain⟨c0,c1,c2,c3,c4,f0,f1,f2,f3,f4,hl⟩:=Ak h;have htb:(tr == 0)=false:=by simpa using ht
 clear h;go_enter Tryz.func74,Tryz.ntmps74;go_wp2
 go_end0
 exact⟨rfl,rfl⟩
theorem Ma{p:Nat}{w:World}{cs fs ss:Value}{fl:Int}(h:Mc p w cs fs ss fl 0){n:Int}(hn:fl<n):Calls Tryz.prog 74 #[pt p 0,iv n] w fun r w'=>r=.returned (.tuple #[])∧w'=(w.setCell ⟨p,3,none⟩ (iv 0)).setCell ⟨p,4,none⟩ (iv 54):=by
 obtain⟨c0,c1,c2,c3,c4,f0,f1,f2,f3,f4,hl⟩:=Ak h;have h1:=h.setF 0;have hT:=E5 h1 54;obtain⟨d0,d1,d2,d3,d4,g0,g1,g2,g3,g4,gl⟩:=Ak (h1.setT 54);clear h h1;go_enter Tryz.func74,Tryz.ntmps74;go_wp2_with fail;refine hT.mono ?_;rintro r w' ⟨rfl,rfl⟩;go_wp2
 go_end0
 exact⟨rfl,rfl⟩
theorem Ny{p:Nat}{w:World}{cs fs ss:Value}{fl:Int}(h:Mc p w cs fs ss fl 0){n:Int}(hn:¬fl<n)(h0:0<=n)(hf:fl<=4096):Calls Tryz.prog 74 #[pt p 0,iv n] w fun r w'=>r=.returned (.tuple #[])∧w'=w.setCell ⟨p,3,none⟩ (iv (fl - n)):=by
 obtain⟨c0,c1,c2,c3,c4,f0,f1,f2,f3,f4,hl⟩:=Ak h;have hw:IntKind.i64.wrap (fl - n)=fl - n:=by rw[IntKind.wrap_i64];omega
 have hnb:decide (fl<n)=false:=by simpa using hn
 clear h;go_enter Tryz.func74,Tryz.ntmps74;go_wp2
 go_end0
 exact⟨rfl,rfl⟩
def chF(fl n:Int):Int:=if fl<n then 0 else fl - n
def chT(fl n:Int):Int:=if fl<n then 54 else 0
theorem Cn{p:Nat}{w:World}{cs fs ss:Value}{fl:Int}(h:Mc p w cs fs ss fl 0){n:Int}(h0:0<=n)(hf:fl<=4096):Calls Tryz.prog 74 #[pt p 0,iv n] w fun r w'=>r=.returned (.tuple #[])∧Mc p w' cs fs ss (chF fl n) (chT fl n)∧Fr (fun k=>k≠p) w w':=by
 by_cases hn:fl<n
 ·refine (Ma h hn).mono ?_;rintro r w' ⟨rfl,rfl⟩;refine⟨rfl,?_,(Fr.set (by simp) _ _).trans (Fr.set (by simp) _ _)⟩;unfold chF chT;rw[if_pos hn,if_pos hn];exact (h.setF 0).setT 54
 ·refine (Ny h hn h0 hf).mono ?_;rintro r w' ⟨rfl,rfl⟩;refine⟨rfl,?_,Fr.set (by simp) _ _⟩;unfold chF chT;rw[if_neg hn,if_neg hn];exact h.setF _
end
section
open Go.RowKit
theorem Mb{w:World}{b e size n:Nat}{v:Value}{xs:List Value}(h:w.ownsRow b e size v n xs):w.ownsRow 0 e size v n xs∧∀k,v.ownBlock=some k->b<=k∧k<w.heap.size:=by
 refine⟨⟨h.1,?_⟩,fun k hk=>h.lt k hk⟩;rcases h.2 with h1 | ⟨g,cap,cur,e1,h2,h3⟩
 ·exact Or.inl h1
 ·exact Or.inr ⟨g,cap,cur,e1,Nat.zero_le _,h3⟩
theorem D8{B:Nat->Prop}{w:World}{l:List V}{a:Option Addr}{n c:Nat}(h:Al B w l (.slice a n c))(hl:l.length<=900000)(hB:∀k,w.heap.size<=k->B k) :
  ∃wa a1 c1 w1,w.alloc (.cells #[] 31)=wa∧(Builtin.append_ #[22,22] 22 #[sL w.heap.size 0 0 0,.slice a n c]).run Tryz.prog wa=.ok (.slice a1 l.length c1) w1∧Gv B w1 (.slice a1 l.length c1) l∧Below w.heap.size w w1∧(∀k,(Value.slice a1 l.length c1).ownBlock=some k->w.heap.size<=k):=by
 obtain⟨ao,cap,e,-,-⟩:=h.slice;simp only[Value.slice.injEq] at e;obtain⟨rfl,rfl,rfl⟩:=e;obtain⟨wa,hWa⟩:∃wa,w.alloc (.cells #[] 31)=wa:=⟨_,rfl⟩;have hba:Below w.heap.size w wa:=by rw[<-hWa];exact (Below.refl _ _).alloc (Nat.le_refl _) _
 have hown:wa.ownsRow w.heap.size 31 4 (sL w.heap.size 0 0 0) 0 []:=by
  rw[<-hWa];exact⟨rfl,Or.inr ⟨w.heap.size,0,#[],rfl,Nat.le_refl _,Ai _ _,Nat.le_refl _,by unfold maxLen;omega,rfl,rfl⟩⟩
 obtain⟨row,n1,n2,n3,n4⟩:=(h.base (B':=fun k=>B k∧k<w.heap.size) (fun k h1 h2=>⟨h1,h2⟩)).below hba |>.news
 obtain⟨a1,c1,w1,hr,ho,hb,-⟩:=Hu Tryz.underlying22 Dh rfl (by decide) 22 (m:=l.length) hown n3 n1 n4 n2.ones (by omega) (by decide) hba.size;rw[Nat.zero_add,List.nil_append] at *;obtain⟨ho1,ho2⟩:=Mb ho;have hB1:Below w.heap.size w w1:=hba.trans hb;refine⟨wa,a1,c1,w1,hWa,hr,⟨row,ho1,fun k hk=>hB k (ho2 k hk).1,?_⟩,hB1,fun k hk=>(ho2 k hk).1⟩;refine (n2.since ⟨hb.size,fun k hk hl=>hb.block k hk.2⟩).base (fun k hk hl=>⟨hk.1,fun e=>?_⟩);have:=(ho2 k e).1;have:=hk.2;omega
theorem C6{P:Nat->Prop}{w:World}{sl:Value}{acc:List V}(h:Gv P w sl acc){x:V}{xs:Value}(hx:IsW (fun k=>P k∧sl.ownBlock≠some k) w x xs)(hn:acc.length+1<=900000)(hP:∀k,w.heap.size<=k->P k) :
  ∃wa ao cap w',w.alloc (.cells #[iv x.k,iv x.n,bz x.t,xs] 31)=wa∧(Builtin.append_ #[22,22] 22 #[sl,sL w.heap.size 0 1 1]).run Tryz.prog wa=.ok (.slice ao (acc.length+1) cap) w'∧Gv P w' (.slice ao (acc.length+1) cap) (acc ++ [x])∧Fr (fun k=>sl.ownBlock≠some k) w w'∧(∀k,(Value.slice ao (acc.length+1) cap).ownBlock=some k->sl.ownBlock=some k∨w.heap.size<=k):=by
 obtain⟨wa,hWa⟩:∃wa,w.alloc (.cells #[iv x.k,iv x.n,bz x.t,xs] 31)=wa:=⟨_,rfl⟩;have hba:Below w.heap.size w wa:=by rw[<-hWa];exact (Below.refl _ _).alloc (Nat.le_refl _) _
 have hblk:wa.heap[w.heap.size]?=some (.cells #[iv x.k,iv x.n,bz x.t,xs] 31):=by rw[<-hWa];exact Ai _ _
 obtain⟨row,hown,hPo,hall⟩:=h.below hba;have hone:An (fun k=>P k∧sl.ownBlock≠some k) wa [x] [iv x.k,iv x.n,bz x.t,xs]:=An.one (At.2 ⟨xs,rfl,hx.below hba⟩);obtain⟨ao,cap,w',hr,ho,hb,hg,hat⟩:=Eo Tryz.underlying22 Dh rfl (by decide) 22 (m:=1) (c:=1) (ad:=some ⟨w.heap.size,0,none⟩) hown (fun h=>by cases h) (by simp) (fun b hb j u hu=>by
  obtain rfl:=Option.some.inj hb;exact World.news_of_block hblk j u hu) hone.ones (by omega) (by decide) (Nat.zero_le _)
 have hs0:sl.ownBlock≠some wa.heap.size:=fun e=>by have:=(hown.lt _ e).2;omega
 have hsince:Since (fun k=>P k∧sl.ownBlock≠some k) wa w':=⟨hg.size,fun k h1 h2=>hg.block k h2 (fun e=>h1.2 e.symm)⟩;have hown':∀k,(Value.slice ao (acc.length+1) cap).ownBlock=some k->sl.ownBlock=some k∨wa.heap.size=k:=fun k hk=>by
  rcases hat with e | e
  ·exact Or.inl (e ▸ hk)
  ·rw[e] at hk;exact Or.inr (Option.some.inj hk)
 refine⟨wa,ao,cap,w',hWa,hr,⟨row ++ [iv x.k,iv x.n,bz x.t,xs],?_,?_,?_⟩,?_,?_⟩
 ·simpa using ho
 ·intro k hk;rcases hown' k hk with e | e
  ·exact hPo k e
  ·exact hP k (by have:=hba.size;omega)
 ·refine (((hall.base (B':=fun k=>(P k∧sl.ownBlock≠some k)∧k<wa.heap.size) (fun k h1 h2=>⟨h1,h2⟩)).append (hone.base (fun k h1 h2=>⟨h1,h2⟩))).since ⟨hg.size,fun k h1 h2=>hsince.block k h1.1 h2⟩).base (fun k h1 _=>⟨h1.1.1,fun e=>?_⟩);rcases hown' k e with e | e
  ·exact h1.1.2 e
  ·have:=h1.2;omega
 ·exact⟨hg.os.trans hba.os,hg.tape.trans hba.tape,hg.output.trans hba.output,Nat.le_trans hba.size hg.size,fun k h1 h2=>(hg.block k (Nat.lt_of_lt_of_le h2 hba.size) (fun e=>h1 e.symm)).trans (hba.block k h2)⟩
 ·intro k hk;rcases hown' k hk with e | e
  ·exact Or.inl e
  ·exact Or.inr (by have:=hba.size;omega)
end
end Go.Proofs.YtnijcolomoobnaaGreatDoor
