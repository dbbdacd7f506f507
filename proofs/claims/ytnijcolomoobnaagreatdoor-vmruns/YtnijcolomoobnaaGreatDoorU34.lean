/- Texts of ours, joined. -/
import Derived.Test.YtnijcolomoobnaaGreatDoorU29
import Derived.Test.YtnijcolomoobnaaGreatDoorU26
import Derived.LaidMore
import Derived.Stop.LaidErr
set_option linter.unusedVariables false
set_option linter.unusedSimpArgs false
set_option maxRecDepth 100000
set_option maxHeartbeats 16000000
namespace Go.Proofs.YtnijcolomoobnaaGreatDoor
section
theorem N6 {m:Md} {n g:Nat} {o:VOut} {N:Nx} {q:Nat} {loc sts:List V} (h:(match N with
  | .bad=>none
  | .done o=>some o
  | .go p' loc' stk' sts' fl'=>vmRun it15 m g n p' loc' stk' sts' fl'
  | .call k lk s fl'=>match vmRun it15 m g k 0 lk [] sts fl' with
   | none=>none
   | some o=>if o.trap≠0 then some o else vmRun it15 m g n (q+1) loc (s ++ [o.val]) o.sts o.fuel)=some o):(∀p' loc' stk' sts' fl',N=.go p' loc' stk' sts' fl'->vmRun it15 m g n p' loc' stk' sts' fl'=some o)∧(∀o',N=.done o'->o'=o)∧(∀k lk s fl',N=.call k lk s fl'->∃o',vmRun it15 m g k 0 lk [] sts fl'=some o'∧(o'.trap≠0->o'=o)∧(o'.trap=0->vmRun it15 m g n (q+1) loc (s ++ [o'.val]) o'.sts o'.fuel=some o)):=by
 refine⟨fun p' loc' stk' sts' fl' e=>by rw[e] at h;exact h,fun o' e=>by rw[e] at h;exact Option.some.inj h,fun k lk s fl' e=>?_⟩;rw[e] at h;have h':(match vmRun it15 m g k 0 lk [] sts fl' with
   | none=>none
   | some o=>if o.trap≠0 then some o else vmRun it15 m g n (q+1) loc (s ++ [o.val]) o.sts o.fuel)=some o:=h
 rcases ho:vmRun it15 m g k 0 lk [] sts fl' with _ | o'
 ·rw[ho] at h';cases h'
 rw[ho] at h';have h6:(if o'.trap≠0 then some o' else vmRun it15 m g n (q+1) loc (s ++ [o'.val]) o'.sts o'.fuel)=some o:=h';refine⟨o',rfl,fun c=>by rw[if_pos c] at h6;exact Option.some.inj h6,fun c=>by rw[if_neg (by simp[c])] at h6;exact h6⟩
theorem Tt{it:Int->List UInt8}{m:Md}{i:In}{p:Nat}{loc s v sts:List V}{fl:Int}(h:12<=i.op):vmI it m i p loc s v sts fl=if (opV it i v).2≠0 then .done ⟨zV,sts,fl,(opV it i v).2⟩ else .go (p+1) loc (s ++ [(opV it i v).1]) sts fl:=by
 unfold vmI;rw[if_neg (by omega),if_neg (by omega),if_neg (by omega),if_neg (by omega),if_neg (by omega),if_neg (by omega),if_neg (fun e=>by have:=e.1;omega),if_neg (fun e=>by rcases e with e | e;omega;have:=e.1;omega),if_neg (by omega),if_neg (by omega),if_neg (by omega),if_neg (by omega)]
theorem Hy{m:Md}{states:Int}(h:Run m states):Av m.consts:=fun v hv=>by
 obtain⟨h1,h2,T,h3⟩:=Qf (h.con v hv);refine⟨h2,?_⟩;obtain⟨k,n,t,l⟩:=v;rw[Bd];have h1':l=[]:=h1;subst h1';have hr:Cy []:=fun i a b ha hb=>by simp at ha
 cases T with
 | int=>obtain⟨a,b,c⟩:=h3;obtain rfl:k=1:=a;obtain rfl:t=[]:=b;exact⟨by omega,by omega,fun _=>rfl,by omega,fun _=>rfl,by omega,by omega,by omega,by omega,by simp⟩
 | bool=>obtain⟨a,b,c,d⟩:=h3;obtain rfl:k=2:=a;obtain rfl:t=[]:=b;exact⟨by omega,by omega,fun _=>rfl,by omega,fun _=>rfl,by omega,fun _=>d,by omega,by omega,by simp⟩
 | text=>obtain⟨a,b,c,d⟩:=h3;obtain rfl:k=3:=a;obtain rfl:n=0:=b;exact⟨by omega,by omega,by omega,fun _=>rfl,fun _=>rfl,by omega,by omega,fun _=>d,by omega,by simp⟩
 | list T=>obtain⟨a,b,c,d⟩:=h3;obtain rfl:k=4:=a;obtain rfl:n=0:=b;obtain rfl:t=[]:=c;exact⟨by omega,by omega,fun _=>rfl,fun _=>rfl,fun _=>rfl,by omega,by omega,by omega,by simp,by simp⟩
 | map kb T=>obtain⟨a,b,c,d⟩:=h3;obtain rfl:k=5:=a;obtain rfl:n=0:=b;obtain rfl:t=[]:=c;exact⟨by omega,by omega,fun _=>rfl,fun _=>rfl,fun _=>rfl,fun _=>⟨hr,by simp,by simp⟩,by omega,by omega,by omega,by simp⟩
structure VOk(m:Md)(states:List V)(n:Int)(args:List V):Prop where
 run:Run m (states.length:Int)
 lo:0<=n
 hi:n<m.funcs.length
 par:∀f,m.funcs[n.toNat]?=some f->(args.length:Int)=f.params
 st:Av states
 ar:Av args
def cl15(fuel:Int):Int:=if fuel<0 then 0 else if fuel > 4096 then 4096 else fuel
theorem N7(x:Int):0<=cl15 x∧cl15 x<=4096:=by unfold cl15;split <;> (try split) <;> omega
def Dy(m:Md)(states:List V)(n:Int)(args:List V)(fuel:Int)(S:List V)(v:V)(e fl:Int):Prop:=
 (¬VOk m states n args∧S=[]∧v=V.zero∧e=40∧fl=0) ∨
 (VOk m states n args∧∃f g o,m.funcs[n.toNat]?=some f∧vmRun it15 m g n.toNat 0 (loc0 f args) [] states (cl15 fuel)=some o∧((o.trap≠0∧S=states∧v=V.zero∧e=o.trap∧fl=o.fuel)∨(o.trap=0∧S=o.sts∧v=o.val∧e=0∧fl=o.fuel)))
theorem Dy.one{m:Md}{states:List V}{n:Int}{args:List V}{fuel:Int}{S S':List V}{v v':V}{e e' fl fl':Int}(h:Dy m states n args fuel S v e fl)(h':Dy m states n args fuel S' v' e' fl'):S=S'∧v=v'∧e=e'∧fl=fl':=by
 rcases h with⟨h0,rfl,rfl,rfl,rfl⟩ | ⟨h0,f,g,o,hf,hg,h1⟩
 ·rcases h' with⟨-,rfl,rfl,rfl,rfl⟩ | ⟨h0',-⟩
  ·exact⟨rfl,rfl,rfl,rfl⟩
  ·exact absurd h0' h0
 ·rcases h' with⟨h0',-⟩ | ⟨-,f',g',o',hf',hg',h1'⟩
  ·exact absurd h0 h0'
  ·obtain rfl:f=f':=Option.some.inj (hf.symm.trans hf');have e1:=Pd (Nat.le_max_left g g') hg;have e2:=Pd (Nat.le_max_right g g') hg';obtain rfl:o=o':=Option.some.inj (e1.symm.trans e2);rcases h1 with⟨t,rfl,rfl,rfl,rfl⟩ | ⟨t,rfl,rfl,rfl,rfl⟩ <;> rcases h1' with⟨t',rfl,rfl,rfl,rfl⟩ | ⟨t',rfl,rfl,rfl,rfl⟩
   ·exact⟨rfl,rfl,rfl,rfl⟩
   ·exact absurd t' t
   ·exact absurd t t'
   ·exact⟨rfl,rfl,rfl,rfl⟩
theorem VOk.begin{m:Md}{states:List V}{n:Int}{args:List V}(h:VOk m states n args)(fuel:Int):∃f H g o,m.funcs[n.toNat]?=some f∧Vst m (states.length:Int) n.toNat f H 0 (loc0 f args) [] states (cl15 fuel)∧(args.length:Int)=f.params∧vmRun it15 m g n.toNat 0 (loc0 f args) [] states (cl15 fuel)=some o:=by
 have hlt:n.toNat<m.funcs.length:=by have:=h.lo;have:=h.hi;omega
 have hf:m.funcs[n.toNat]?=some m.funcs[n.toNat]:=List.getElem?_eq_getElem hlt;have hp:=h.par _ hf;have hnum:=(h.run.fun_ _ _ hf).num;unfold A8 at hnum;obtain⟨H,hH⟩:=(h.run.fun_ _ _ hf).walk;obtain⟨c1,c2⟩:=N7 fuel;have hl:Av (loc0 m.funcs[n.toNat] args):=fun x hx=>by
  unfold loc0 at hx;rcases List.mem_append.1 hx with hx | hx
  ·exact h.ar x hx
  ·rw[(List.mem_replicate.1 hx).2];exact L9 0
 have hll:((loc0 m.funcs[n.toNat] args).length:Int)=(m.funcs[n.toNat]).locals:=by unfold loc0;simp;omega
 obtain⟨g,o,ho⟩:=Vj (it:=it15) h.run _ _ hf H hH (cl15 fuel).toNat _ 0 (loc0 m.funcs[n.toNat] args) [] states (cl15 fuel) c1 (Nat.le_refl _) (Nat.le_refl _) hH.zero;exact⟨_,H,g,o,hf,⟨hf,hH,hH.zero,c1,hl,hll,fun x hx=>by simp at hx,h.st,rfl,by simp⟩,hp,ho⟩
end
section
open Go.RowKit
theorem Ux{base:Nat}{v:V}{sl:Value}{w:World}(hb:base<=w.heap.size)(h:Cj base w)(hn:InR v.n):Calls Tryz.prog 109 #[.agg #[iv v.k,iv v.n,bz v.t,sl]] w fun r w'=>Bg (strV (it15 v.n) v) w r w':=Wt (fun w' hw=>Th (h.mono (hw.mono hb)) hn)
def Gb(m:Md)(states:List V)(n:Int)(args:List V)(fuel:Int)(w:World)(r:Ending)(w':World):Prop:=
 ∃(S:List V) (v:V) (e fl:Int) (a':Option Addr) (c':Nat) (av:Option Addr) (cv:Nat),r=.returned (.tuple #[.slice a' S.length c',.agg #[iv v.k,iv v.n,bz v.t,.slice av v.l.length cv,iv e,iv fl]])∧Dy m states n args fuel S v e fl∧Al (From w.heap.size) w' S (.slice a' S.length c')∧IsW (From w.heap.size) w' v (.slice av v.l.length cv)∧Below w.heap.size w w'
theorem Xv(w:World):∃w0,w.alloc (.cells #[iv 0,iv 0,.string ⟨#[]⟩,sZ,iv 0,iv 0] 35)=w0∧Below w.heap.size w w0∧w.heap.size<w0.heap.size∧w0.heap[w.heap.size]?=some (.cells #[iv 0,iv 0,.string ⟨#[]⟩,sZ,iv 0,iv 0] 35 (0,0)):=
 ⟨_,rfl,(Below.refl _ _).alloc (Nat.le_refl _) _,by simp,Ai _ _⟩
theorem Wd{w wq:World}{y0 y1 y2 y3 y4 y5:Value}{T:TypeId}{g:Nat}(hx:wq.heap[g]?=some (.cells #[y0,y1,y2,y3,y4,y5] T (0,0)))(hg:w.heap.size<=g)(hb:Below w.heap.size w wq)(x0 x1 x2 x3 x4 x5:Value):∃wN,(((((wq.setCell ⟨g,0,none⟩ x0).setCell ⟨g,1,none⟩ x1).setCell ⟨g,2,none⟩ x2).setCell ⟨g,3,none⟩ x3).setCell ⟨g,4,none⟩ x4).setCell ⟨g,5,none⟩ x5=wN∧wN.heap[g]?=some (.cells #[x0,x1,x2,x3,x4,x5] T (0,0))∧Below w.heap.size w wN∧Fr (fun k=>k≠g) wq wN:=
 ⟨_,rfl,by simp[World.setCell,Array.getElem?_modify,hx],(((((hb.setCell (p:=⟨g,0,none⟩) hg x0).setCell (p:=⟨g,1,none⟩) hg x1).setCell (p:=⟨g,2,none⟩) hg x2).setCell (p:=⟨g,3,none⟩) hg x3).setCell (p:=⟨g,4,none⟩) hg x4).setCell (p:=⟨g,5,none⟩) hg x5,(((((Fr.set (by simp) _ _).trans (Fr.set (by simp) _ _)).trans (Fr.set (by simp) _ _)).trans (Fr.set (by simp) _ _)).trans (Fr.set (by simp) _ _)).trans (Fr.set (by simp) _ _)⟩
theorem fz6{w:World}{g:Nat}{y0 y1 y2 y3 y4 y5:Value}{T:TypeId}(h:w.heap[g]?=some (.cells #[y0,y1,y2,y3,y4,y5] T (0,0))):w.frozen? ⟨g,0,none⟩=false∧w.frozen? ⟨g,1,none⟩=false∧w.frozen? ⟨g,2,none⟩=false∧w.frozen? ⟨g,3,none⟩=false∧w.frozen? ⟨g,4,none⟩=false∧w.frozen? ⟨g,5,none⟩=false:=by
 refine⟨?_,?_,?_,?_,?_,?_⟩
 all_goals simp[World.frozen?,h]
end
section
open Go.RowKit
attribute [local go_sem ↓] Go.wp_at_zero Go.wp_at_succ
theorem Xy{w wq:World}(hx:wq.heap[w.heap.size]?=some (.cells #[sZ,sZ] 25 (0,0)))(hb:Below w.heap.size w wq)(x0 x1:Value):∃wN,(wq.setCell ⟨w.heap.size,0,none⟩ x0).setCell ⟨w.heap.size,1,none⟩ x1=wN∧wN.heap[w.heap.size]?=some (.cells #[x0,x1] 25 (0,0))∧Below w.heap.size w wN∧wN.heap.size=wq.heap.size∧∀k,k≠w.heap.size->wN.heap[k]?=wq.heap[k]?:=by
 refine⟨_,rfl,?_,(hb.setCell (p:=⟨w.heap.size,0,none⟩) (Nat.le_refl _) x0).setCell (p:=⟨w.heap.size,1,none⟩) (Nat.le_refl _) x1,by simp[World.setCell],fun k hk=>?_⟩
 ·simp[World.setCell,Array.getElem?_modify,hx]
 ·rw[Below.heap_setCell _ _ _ _ hk,Below.heap_setCell _ _ _ _ hk]
theorem G4:∀l:List In,(l.flatMap Be).length=l.length*2
 | []=>rfl
 | a :: r=>by
  have:=G4 r;simp only[List.flatMap_cons,List.length_append,this,List.length_cons,Be,List.length_nil];omega
def Ck(l:List In):Md:=⟨[.mk 1 7 [] []],[⟨0,0,0,1,l⟩]⟩
theorem K8:ctype (.mk 1 7 [] [])≠[]:=by
 have h:fitS (tyT .int) (.mk 1 7 [] [])=true:=by
  unfold fitS;rw[Kd (by decide),Bf.2 (by rw[Shp];exact⟨rfl,rfl,rfl⟩)];simp[wt,wts]
 have ht:tys=tyT .int :: tys.tail:=rfl;unfold ctype;rw[if_pos (show (V.mk 1 7 [] []).l=[] from rfl),ht,List.find?_cons_of_pos (p:=fun t=>fitS t (.mk 1 7 [] [])) h];decide
theorem H1{l:List In}{n:Nat}{f:Fu}(h:(Ck l).funcs[n]?=some f):n=0∧f=⟨0,0,0,1,l⟩:=by
 rcases n with _ | n
 ·exact⟨rfl,(Option.some.inj h).symm⟩
 ·simp[Ck] at h
theorem Wr:Run (Ck [⟨1,0⟩,⟨10,0⟩]) 0:=by
 refine⟨⟨by decide,by decide⟩,⟨by decide,by decide⟩,fun v hv=>?_,fun n f hf=>?_⟩
 ·simp only[Ck,List.mem_cons,List.not_mem_nil,or_false] at hv;subst hv;exact K8
 ·obtain⟨rfl,rfl⟩:=H1 hf;refine⟨by unfold A8;simp[Ck],fun i hi=>?_,⟨fun p=>if p=0 then some 0 else if p=1 then some 1 else none,rfl,fun p x hx=>?_⟩⟩
  ·simp only[List.mem_cons,List.not_mem_nil,or_false] at hi;rcases hi with rfl | rfl <;> rfl
  ·rcases p with _ | _ | p
   ·obtain rfl:(0:Int)=x:=Option.some.inj hx;exact⟨_,rfl,by decide,by decide,fun q hq=>by
     have:q∈[1]:=hq;simp only[List.mem_cons,List.not_mem_nil,or_false] at this;subst this;rfl⟩
   ·obtain rfl:(1:Int)=x:=Option.some.inj hx;exact⟨_,rfl,by decide,by decide,fun q hq=>by
     have:q∈([]:List Nat):=hq;simp at this⟩
   ·simp at hx
theorem K9{w:World}{g:Nat}{arr:List Value}{T:TypeId}{n sz:Nat}(h:w.heap[g]?=some (.cells arr.toArray T (0,0)))(hl:arr.length=n*sz)(hn:n<=maxLen):C0 (fun _=>True) w sz (sL g 0 n n) n arr:=
 ⟨hl,Or.inr ⟨g,0,n,rfl,Nat.le_refl _,hn,trivial,(Array.getElem?_eq_some_iff.1 h).1,fun j u hj=>by
  rw[Nat.zero_add];simpa [World.cell?,h] using hj⟩⟩
def Mx(l:List In)(w:World)(e:Ending)(w':World):Prop:=(∃a1 a2,e=.returned (.agg #[.slice a1 1 1,.slice a2 1 1])∧IsMd (fun _=>True) w' (Ck l) (.slice a1 1 1) (.slice a2 1 1))∧Below w.heap.size w w'
theorem E9{w:World}{l:List In}{a:Option Addr}{c N:Nat}(hN:l.length=N)(hi:IsIs (fun _=>True) w l (.slice a N c)) :
  Calls Tryz.prog 19 #[.slice a N c] w fun e w'=>Mx l w e w':=by
 obtain⟨w0,hW0,hb0,-,hx0⟩:=Dq w sZ sZ 25;obtain⟨w1,hW1⟩:∃w1,w0.alloc (.cells #[iv 1,iv 7,.string ⟨#[]⟩,sZ] 31)=w1:=⟨_,rfl⟩;have hb1:Below w0.heap.size w0 w1:=by rw[<-hW1];exact (Below.refl _ _).alloc (Nat.le_refl _) _
 have hx1:w1.heap[w0.heap.size]?=some (.cells #[iv 1,iv 7,.string ⟨#[]⟩,sZ] 31 (0,0)):=by rw[<-hW1];exact Ai _ _
 obtain⟨w2,hW2⟩:∃w2,w1.alloc (.cells #[iv 0,iv 0,iv 0,iv 1,.slice a N c] 52)=w2:=⟨_,rfl⟩;have hb2:Below w1.heap.size w1 w2:=by rw[<-hW2];exact (Below.refl _ _).alloc (Nat.le_refl _) _
 have hx2:w2.heap[w1.heap.size]?=some (.cells #[iv 0,iv 0,iv 0,iv 1,.slice a N c] 52 (0,0)):=by rw[<-hW2];exact Ai _ _
 have hl0:w.heap.size<w0.heap.size:=(Array.getElem?_eq_some_iff.1 hx0).1;have hl1:w0.heap.size<w1.heap.size:=(Array.getElem?_eq_some_iff.1 hx1).1;have hl2:w1.heap.size<w2.heap.size:=(Array.getElem?_eq_some_iff.1 hx2).1;have hB2:Below w.heap.size w w2:=hb0.trans ((hb1.mono hb0.size).trans (hb2.mono (by omega)));have hxr:=(hb2.block _ (by omega)).trans ((hb1.block _ hl0).trans hx0);obtain⟨p0,p1,o0,o1,hlp⟩:=Ae hxr;obtain⟨w3,hW3,hx3,hB3,hs3,hk3⟩:=Xy hxr hB2 (sL w0.heap.size 0 1 1) (sL w1.heap.size 0 1 1);obtain⟨t0,t1,-,-,hlt⟩:=Ae hx3;have hy1:=(hk3 _ (by omega)).trans ((hb2.block _ hl1).trans hx1);have hy2:=(hk3 _ (by omega)).trans hx2;have hpost:Mx l w (.returned (.agg #[sL w0.heap.size 0 1 1,sL w1.heap.size 0 1 1])) w3:=by
  have i0:InR 0:=by constructor <;> decide
  have i1:InR 1:=by constructor <;> decide
  have i7:InR 7:=by constructor <;> decide
  have hi3:IsIs (fun _=>True) w3 l (.slice a N c):=(hi.base (B':=fun k=>k<w.heap.size) (fun k _ h=>h)).since ⟨hB3.size,fun k hk _=>hB3.block k hk⟩ |>.base (fun _ _ _=>trivial)
  refine⟨⟨_,_,rfl,⟨_,K9 (arr:=[iv 1,iv 7,.string ⟨#[]⟩,sZ]) hy1 rfl (by unfold maxLen;omega),?_⟩,⟨_,K9 (arr:=[iv 0,iv 0,iv 0,iv 1,.slice a N c]) hy2 rfl (by unfold maxLen;omega),?_⟩⟩,hB3⟩
  ·exact An.one (At.2 ⟨_,rfl,Nat.zero_le _,i1,i7,Al.nil⟩)
  ·refine⟨_,[],(List.append_nil _).symm,⟨a,c,?_,i0,i0,i0,i1,?_⟩,rfl⟩
   ·simp[hN]
   ·show IsIs _ w3 l (.slice a l.length c);rw[hN];exact hi3
 clear hi hb0 hb1 hb2 hx0 hx1 hx2 hB2 hxr hx3 hB3 hs3 hk3 hy1 hy2;go_enter Tryz.func19,Tryz.ntmps19;go_wp2_with fail;exact bodyPost_ret (v:=.agg #[sL w0.heap.size 0 1 1,sL w1.heap.size 0 1 1]) (by simp[results,Tryz.results19,go_sem,hlt,t0,t1]) rfl hpost
theorem Jd{w:World}{l:List In}(hr:∀i∈l,InR i.op∧InR i.a){n:Nat}(hn:l.length=n)(hl:n<=100):IsIs (fun _=>True) (w.alloc (.cells (l.flatMap Be).toArray 48)) l (sL w.heap.size 0 n n):=by
 subst hn;exact⟨K9 (Ai _ _) (G4 l) (by unfold maxLen;omega),hr⟩
theorem T9:Run (Ck [⟨7,0⟩]) 0:=by
 refine⟨⟨by decide,by decide⟩,⟨by decide,by decide⟩,fun v hv=>?_,fun n f hf=>?_⟩
 ·simp only[Ck,List.mem_cons,List.not_mem_nil,or_false] at hv;subst hv;exact K8
 ·obtain⟨rfl,rfl⟩:=H1 hf;refine⟨by unfold A8;simp[Ck],fun i hi=>?_,⟨fun p=>if p=0 then some 0 else none,rfl,fun p x hx=>?_⟩⟩
  ·simp only[List.mem_cons,List.not_mem_nil,or_false] at hi;subst hi;rfl
  ·rcases p with _ | p
   ·obtain rfl:(0:Int)=x:=Option.some.inj hx;exact⟨_,rfl,by decide,by decide,fun q hq=>by
     have:q∈[0]:=hq;simp only[List.mem_cons,List.not_mem_nil,or_false] at this;subst this;rfl⟩
   ·simp at hx
theorem Ws:Run (Ck [⟨1,0⟩,⟨14,0⟩,⟨10,0⟩]) 0:=by
 refine⟨⟨by decide,by decide⟩,⟨by decide,by decide⟩,fun v hv=>?_,fun n f hf=>?_⟩
 ·simp only[Ck,List.mem_cons,List.not_mem_nil,or_false] at hv;subst hv;exact K8
 ·obtain⟨rfl,rfl⟩:=H1 hf;refine⟨by unfold A8;simp[Ck],fun i hi=>?_,⟨fun p=>if p=0 then some 0 else if p=1 then some 1 else if p=2 then some 1 else none,rfl,fun p x hx=>?_⟩⟩
  ·simp only[List.mem_cons,List.not_mem_nil,or_false] at hi;rcases hi with rfl | rfl | rfl <;> rfl
  ·rcases p with _ | _ | _ | p
   ·obtain rfl:(0:Int)=x:=Option.some.inj hx;exact⟨_,rfl,by decide,by decide,fun q hq=>by
     have:q∈[1]:=hq;simp only[List.mem_cons,List.not_mem_nil,or_false] at this;subst this;rfl⟩
   ·obtain rfl:(1:Int)=x:=Option.some.inj hx;exact⟨_,rfl,by decide,by decide,fun q hq=>by
     have:q∈[2]:=hq;simp only[List.mem_cons,List.not_mem_nil,or_false] at this;subst this;rfl⟩
   ·obtain rfl:(1:Int)=x:=Option.some.inj hx;exact⟨_,rfl,by decide,by decide,fun q hq=>by
     have:q∈([]:List Nat):=hq;simp at this⟩
   ·simp at hx
theorem Oq{l:List In}(h:Run (Ck l) 0):VOk (Ck l) [] 0 []:=
 ⟨h,Int.le_refl _,by simp[Ck],fun f hf=>by obtain⟨-,rfl⟩:=H1 (n:=0) hf;rfl,fun x hx=>by simp at hx,fun x hx=>by simp at hx⟩
theorem Q3{S:List V}{v:V}{e fl:Int}(h:Dy (Ck [⟨1,0⟩,⟨10,0⟩]) [] 0 [] 9 S v e fl):v=nV 7∧e=0∧fl=9:=by
 have h':Dy (Ck [⟨1,0⟩,⟨10,0⟩]) [] 0 [] 9 [] (nV 7) 0 9:=Or.inr ⟨Oq Wr,_,2,⟨nV 7,[],9,0⟩,rfl,by simp[vmRun,vmN,vmI,Ck,popN,Eh,F0,loc0,cl15],Or.inr ⟨rfl,rfl,rfl,rfl,rfl⟩⟩;obtain⟨-,a,b,c⟩:=h.one h';exact⟨a,b,c⟩
theorem Q4{S:List V}{v:V}{e fl:Int}(h:Dy (Ck [⟨1,0⟩,⟨14,0⟩,⟨10,0⟩]) [] 0 [] 9 S v e fl):e=40∧fl=9:=by
 have h':Dy (Ck [⟨1,0⟩,⟨14,0⟩,⟨10,0⟩]) [] 0 [] 9 [] V.zero 40 9:=Or.inr ⟨Oq Ws,_,2,⟨zV,[],9,40⟩,rfl,by simp[vmRun,vmN,vmI,Ck,popN,Eh,F0,loc0,cl15,opV,V.k],Or.inl ⟨by simp,rfl,rfl,rfl,rfl⟩⟩;obtain⟨-,a,b,c⟩:=h.one h';exact⟨b,c⟩
theorem Ua{S:List V}{v:V}{e fl:Int}(h:Dy (Ck [⟨7,0⟩]) [] 0 [] 9 S v e fl):e=54∧fl=0:=by
 have h':Dy (Ck [⟨7,0⟩]) [] 0 [] 9 [] V.zero 54 0:=Or.inr ⟨Oq T9,_,10,⟨zV,[],0,54⟩,rfl,by simp[vmRun,vmN,vmI,Ck,popN,Eh,F0,loc0,cl15],Or.inl ⟨by simp,rfl,rfl,rfl,rfl⟩⟩;obtain⟨-,a,b,c⟩:=h.one h';exact⟨b,c⟩
end
section
open Go.ChangeShapes Go.WideShapes Go.ChangeAt Go.RowKit
def laidT:List (String × DataW Unit):=Rows.vmSoundRow.laid
theorem door_met(os:Os)(args:Array Value):laidMetH Tryz.prog laidT ((World.doorLaid Tryz.prog 400 os).forCall (fun _ _=>0) ⟨#[],args,[]⟩).memory:=
 laidMetH_of_parts3 (fuel:=8) (laidMet_of_run' 8 (by kernel_rfl) (by kernel_rfl)) (by kernel_rfl) (by kernel_rfl)
theorem gPT:Tryz.prog.globalNamed "internal/strconv.uint64pow10"=some 1:=by kernel_rfl
theorem tPT:(Tryz.prog.globals[1]?).map (·.type)=some 166:=by kernel_rfl
theorem tb15_of_laid{W:World}(h:laidMetH Tryz.prog laidT W):Cj W.heap.size W:=by
 rw[MakeChecks.laidMetH_plain _ _ _ (by kernel_rfl)] at h;have h2:laidMet Tryz.prog [("internal/strconv.uint64pow10",Lib.tabData .u64 Lib.pow10Tab)] W:=laidMet.tail (laidMet.tail (show laidMet Tryz.prog (("math/bits.deBruijn32tab",Rows.laid_math_bits_deBruijn32tab) :: ("math/bits.deBruijn64tab",Rows.laid_math_bits_deBruijn64tab) :: [("internal/strconv.uint64pow10",Lib.tabData .u64 Lib.pow10Tab)]) W from h));exact Lib.tabBelow_of_tabIs (Lib.tabIs_of_head gPT tPT Tryz.underlying166 Tryz.underlying141 (by kernel_rfl) (by kernel_rfl) h2)
end
end Go.Proofs.YtnijcolomoobnaaGreatDoor
