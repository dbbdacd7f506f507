/- Texts of ours, joined. -/
import Derived.Test.YtpckmjfabiallaaGreatDoorG00
import Derived.OrdersHeld
set_option linter.unusedVariables false
set_option linter.unusedSimpArgs false
set_option maxRecDepth 100000
set_option maxHeartbeats 16000000
namespace Go.Proofs.YtpckmjfabiallaaGreatDoor
variable{B':Nat->Prop}{T:TypeId}{a:Act}{f g i j sz:Nat}{s:ByteArray}{v y0 y1 y2 y3:Value}{w w' w1 w2:World}
open List
open Tryz
section
namespace Vv
inductive V where
 | mk (k n:Int) (t:AQ) (l:List V)
namespace V
def k:V->Int | .mk k _ _ _=>k
def n:V->Int | .mk _ n _ _=>n
def t:V->List UInt8 | .mk _ _ t _=>t
def l:V->List V | .mk _ _ _ l=>l
def zero:V:=.mk 0 0 [] []
end V
def lx2(c d:Int):Int:=if c=0 then d else c
end Vv
namespace Vv
def betw(s a c:AQ):Option (List UInt8):=if (Lib.hasPrefix s a && Lib.hasSuffix (Lib.trimPrefix s a) c)=true then some (Lib.trimSuffix (Lib.trimPrefix s a) c) else none
theorem pre_iff(s a:AQ):Lib.hasPrefix s a=true↔∃y,s=a ++ y:=by
 rw[Lib.hasPrefix,isPrefixOf_iff_prefix];exact⟨λ⟨y,h⟩=>⟨y,h.symm⟩,λ⟨y,h⟩=>⟨y,h.symm⟩⟩
theorem suf_iff(s a:AQ):Lib.hasSuffix s a=true↔∃y,s=y ++ a:=by
 rw[Lib.hasSuffix,isSuffixOf_iff_suffix];exact⟨λ⟨y,h⟩=>⟨y,h.symm⟩,λ⟨y,h⟩=>⟨y,h.symm⟩⟩
theorem betw_iff(s a c y:AQ):betw s a c=some y↔s=a ++ y ++ c:=by
 unfold betw;constructor
 .intro h;split at h
  .rename_i h1;simp only[Bool.and_eq_true] at h1;obtain⟨z,rfl⟩:=(pre_iff s a).1 h1.1;have e:Lib.trimPrefix (a ++ z) a=z:=by simp[Lib.trimPrefix,h1.1]
   rw[e] at h h1;obtain⟨z2,rfl⟩:=(suf_iff z c).1 h1.2;simp[Lib.trimSuffix,h1.2] at h;subst h;simp
  .cases h
 .rintro rfl;have h1:Lib.hasPrefix (a ++ y ++ c) a=true:=(pre_iff _ _).2 ⟨y ++ c,by simp⟩;have e:Lib.trimPrefix (a ++ y ++ c) a=y ++ c:=by rw[Lib.trimPrefix,if_pos h1];simp
  have h2:Lib.hasSuffix (y ++ c) c=true:=(suf_iff _ _).2 ⟨y,rfl⟩;rw[e,h1,h2];simp[Lib.trimSuffix,h2]
def elemT(s:AQ):Option (List UInt8):=
 match betw s [91] [93] with
 | some y=>some y
 | none=>match betw s [123,105,110,116,58] [125] with
  | some y=>some y
  | none=>betw s [123,116,101,120,116,58] [125]
theorem betw_none(s a c:AQ)(h:∀y,s≠a ++ y ++ c):betw s a c=none:=by
 rcases hb:betw s a c with _ | y
 .rfl
 .exact absurd ((betw_iff s a c y).1 hb) (h y)
inductive Ty where
 | int | bool | text
 | list (t:Ty)
 | map (k:Bool) (t:Ty)
 deriving DecidableEq
def keyT(k:Bool):List UInt8:=if k then [105,110,116] else [116,101,120,116]
def tyT:Ty->List UInt8
 | .int=>[105,110,116]
 | .bool=>[98,111,111,108]
 | .text=>[116,101,120,116]
 | .list t=>[91] ++ tyT t ++ [93]
 | .map k t=>[123] ++ keyT k ++ [58] ++ tyT t ++ [125]
def Ty.dp:Ty->Nat
 | .int=>1 | .bool=>1 | .text=>1
 | .list t=>t.dp+1
 | .map _ t=>t.dp+1
def Hl:Nat->List UInt8->Option Ty
 | 0,_=>none
 | f+1,s=>if s=[105,110,116] then some .int else if s=[98,111,111,108] then some .bool else if s=[116,101,120,116] then some .text else
  match betw s [91] [93] with
  | some y=>(Hl f y).map .list
  | none=>match betw s [123,105,110,116,58] [125] with
   | some y=>(Hl f y).map (.map true)
   | none=>match betw s [123,116,101,120,116,58] [125] with
    | some y=>(Hl f y).map (.map false)
    | none=>none
def S7(s:AQ):Option Ty:=Hl 4 s
def tyF:Nat->List UInt8->Bool
 | 0,_=>false
 | f+1,s=>if s=[105,110,116]\/s=[98,111,111,108]\/s=[116,101,120,116] then true else match elemT s with
  | some y=>tyF f y
  | none=>false
theorem Qn:∀(f:Nat) (s:AQ),tyF f s=(Hl f s).isSome
 | 0,s=>rfl
 | f+1,s=>by
  rw[tyF,Hl];by_cases h1:s=[105,110,116]
  .rw[if_pos (Or.inl h1),if_pos h1];rfl
  by_cases h2:s=[98,111,111,108]
  .rw[if_pos (Or.inr (Or.inl h2)),if_neg h1,if_pos h2];rfl
  by_cases h3:s=[116,101,120,116]
  .rw[if_pos (Or.inr (Or.inr h3)),if_neg h1,if_neg h2,if_pos h3];rfl
  rw[if_neg (by rintro (h | h | h) <;> contradiction),if_neg h1,if_neg h2,if_neg h3];unfold elemT;rcases betw s [91] [93] with _ | y
  .rcases betw s [123,105,110,116,58] [125] with _ | y
   .rcases betw s [123,116,101,120,116,58] [125] with _ | y
    .rfl
    .simp[Qn f y]
   .simp[Qn f y]
  .simp[Qn f y]
def gType(s:AQ):Bool:=(S7 s).isSome
theorem gType_tyF(s:AQ):gType s=tyF 4 s:=(Qn 4 s).symm
theorem K9:∀(f:Nat) (s:AQ) (T:Ty),Hl f s=some T->tyT T=s/\T.dp<=f
 | 0,s,T,h=>by simp[Hl] at h
 | f+1,s,T,h=>by
  rw[Hl] at h;by_cases h1:s=[105,110,116]
  .rw[if_pos h1] at h;cases h;subst h1;exact⟨rfl,by simp[Ty.dp]⟩
  rw[if_neg h1] at h;by_cases h2:s=[98,111,111,108]
  .rw[if_pos h2] at h;cases h;subst h2;exact⟨rfl,by simp[Ty.dp]⟩
  rw[if_neg h2] at h;by_cases h3:s=[116,101,120,116]
  .rw[if_pos h3] at h;cases h;subst h3;exact⟨rfl,by simp[Ty.dp]⟩
  rw[if_neg h3] at h;rcases e1:betw s [91] [93] with _ | y
  .rw[e1] at h;rcases e2:betw s [123,105,110,116,58] [125] with _ | y
   .rw[e2] at h;rcases e3:betw s [123,116,101,120,116,58] [125] with _ | y
    .rw[e3] at h;simp at h
    .rw[e3] at h;simp only[Option.map_eq_some_iff] at h;obtain⟨T',h,rfl⟩:=h;obtain⟨g1,g2⟩:=K9 f y T' h;have:=(betw_iff _ _ _ _).1 e3;exact⟨by rw[this];simp[tyT,keyT,g1],by simp[Ty.dp];omega⟩
   .rw[e2] at h;simp only[Option.map_eq_some_iff] at h;obtain⟨T',h,rfl⟩:=h;obtain⟨g1,g2⟩:=K9 f y T' h;have:=(betw_iff _ _ _ _).1 e2;exact⟨by rw[this];simp[tyT,keyT,g1],by simp[Ty.dp];omega⟩
  .rw[e1] at h;simp only[Option.map_eq_some_iff] at h;obtain⟨T',h,rfl⟩:=h;obtain⟨g1,g2⟩:=K9 f y T' h;have:=(betw_iff _ _ _ _).1 e1;exact⟨by rw[this];simp[tyT,g1],by simp[Ty.dp];omega⟩
theorem La:∀(T:Ty) (f:Nat),T.dp<=f->Hl f (tyT T)=some T
 | .int,f+1,h=>by simp[Hl,tyT]
 | .bool,f+1,h=>by simp[Hl,tyT]
 | .text,f+1,h=>by simp[Hl,tyT]
 | .list t,f+1,h=>by
  have ih:=La t f (by simp[Ty.dp] at h;omega);rw[Hl,tyT,if_neg (by simp),if_neg (by simp),if_neg (by simp),(betw_iff _ _ _ (tyT t)).2 rfl];simp[ih]
 | .map true t,f+1,h=>by
  have ih:=La t f (by simp[Ty.dp] at h;omega);rw[Hl,tyT,if_neg (by simp),if_neg (by simp),if_neg (by simp),betw_none _ _ _ (λ z=>by simp),(betw_iff _ _ _ (tyT t)).2 (by simp[keyT])];simp[ih]
 | .map false t,f+1,h=>by
  have ih:=La t f (by simp[Ty.dp] at h;omega);rw[Hl,tyT,if_neg (by simp),if_neg (by simp),if_neg (by simp),betw_none _ _ _ (λ z=>by simp),betw_none _ _ _ (λ z=>by simp[keyT]),(betw_iff _ _ _ (tyT t)).2 (by simp[keyT])];simp[ih]
theorem tyOf_iff(s:AQ)(T:Ty):S7 s=some T↔tyT T=s/\T.dp<=4:=
 ⟨K9 4 s T,λ⟨h1,h2⟩=>by rw[<-h1];exact La T 4 h2⟩
theorem tyT_len:∀T:Ty,3<=(tyT T).length/\(tyT T).length<=7*T.dp
 | .int=>by simp[tyT,Ty.dp] | .bool=>by simp[tyT,Ty.dp] | .text=>by simp[tyT,Ty.dp]
 | .list t=>by have:=tyT_len t;simp[tyT,Ty.dp];omega
 | .map k t=>by have:=tyT_len t;cases k <;> (simp[tyT,Ty.dp,keyT];omega)
def Bd2(s:AQ):Option (List UInt8):=
 if 2<s.length/\s[0]?=some 91/\s[s.length - 1]?=some 93 then some ((s.take (s.length - 1)).drop 1)
 else if 6<s.length/\s.take 5=[123,105,110,116,58]/\s[s.length - 1]?=some 125 then some ((s.take (s.length - 1)).drop 5)
 else if 7<s.length/\s.take 6=[123,116,101,120,116,58]/\s[s.length - 1]?=some 125 then some ((s.take (s.length - 1)).drop 6)
 else none
def Ay2:Nat->List UInt8->Nat
 | 0,_=>0
 | f+1,s=>
  if s=[105,110,116]\/s=[98,111,111,108]\/s=[116,101,120,116] then 1
  else match Bd2 s with
   | none=>0
   | some y=>if 200<s.length then 0 else if Ay2 f y=0 then 0 else Ay2 f y+1
def dep(s:AQ):Nat:=Ay2 (s.length+1) s
end Vv
namespace Vv
open Go.RowKit
abbrev From(n:Nat):Nat->Prop:=λ g=>n<=g
def Bd3(v:Value):Prop:=v=sZ\/∃a cap,v=.slice (some a) 0 cap/\cap<=maxLen
def SlRow(B:AS)(w:World)(sz:Nat)(v:Value)(n:Nat)(row:AR):Prop:=
 row.length=n*sz/\((Bd3 v/\n=0)\/∃g o cap,v=sL g o n cap/\n<=cap/\cap<=maxLen/\B g/\g<w.heap.size/\∀(j:Nat) (u:Value),row[j]?=some u->w.cell? ⟨g,o+j,none⟩=some u)
def InR(n:Int):Prop:=-9223372036854775808<=n/\n<=9223372036854775807
mutual
def IsV(B:AS)(w:World):V->List Value->Prop
 | .mk k n t l,cs=>∃sl row,cs=[iv k,iv n,.string ⟨t.toArray⟩,sl]/\t.length<=maxLen/\InR k/\InR n/\SlRow B w 4 sl l.length row/\AllV B w l row
def AllV(B:AS)(w:World):List V->List Value->Prop
 | [],cs=>cs=[]
 | e :: r,cs=>∃c1 c2,cs=c1 ++ c2/\IsV B w e c1/\AllV B w r c2
end
structure Since(B:AS)(w w':World):Prop where
 size:w.heap.size<=w'.heap.size
 block:∀k,B k->k<w.heap.size->w'.heap[k]?=w.heap[k]?
theorem Since.trans{B:AS}(a:Since B w w1)(b:Since B w1 w2):Since B w w2:=⟨AP a.size b.size,λ k h1 h2=>(b.block k h1 (by have:=a.size;omega)).trans (a.block k h1 h2)⟩
theorem Since.of_below{B:AS}(h:Below w.heap.size w w'):Since B w w':=⟨h.size,λ k _ h2=>h.block k h2⟩
theorem Since.drewN(B:AS)(w:World)(n:Nat):Since B w (w.drewN n):=⟨AD _,λ _ _ _=>rfl⟩
theorem SlRow.since{B:AS}{n:Nat}{row:AR}(h:SlRow B w sz v n row)(s:Since B w w'):SlRow B w' sz v n row:=by
 obtain⟨h1,h2⟩:=h;refine⟨h1,?_⟩;rcases h2 with h2 | ⟨g,o,cap,hv,hc,hm,hB,hg,a0⟩
 .exact AI h2
 .refine AJ ⟨g,o,cap,hv,hc,hm,hB,by have:=s.size;omega,λ j u hj=>?_⟩;rw[World.cell?_of_block (w:=w) (s.block g hB hg)];exact a0 j u hj
theorem SlRow.base{B:AS}{n:Nat}{row:AR}(h:SlRow B w sz v n row)(hb:∀k,B k->k<w.heap.size->B' k):SlRow B' w sz v n row:=by
 obtain⟨h1,h2⟩:=h;refine⟨h1,?_⟩;rcases h2 with h2 | ⟨g,o,cap,hv,hc,hm,hB,hg,r⟩
 .exact AI h2
 .exact AJ ⟨g,o,cap,hv,hc,hm,hb _ hB hg,hg,r⟩
mutual
theorem IsV.since{B:AS}{w w':World}(s:Since B w w'):∀{e:V} {cs:AR},IsV B w e cs->IsV B w' e cs
 | .mk k n t l,cs,h=>by
  rw[IsV] at h ⊢;obtain⟨sl,row,hc,h1,h2,h3,hr,ha⟩:=h;exact⟨sl,row,hc,h1,h2,h3,hr.since s,AllV.since s ha⟩
theorem AllV.since{B:AS}{w w':World}(s:Since B w w'):∀{l:List V} {cs:AR},AllV B w l cs->AllV B w' l cs
 | [],cs,h=>by rw[AllV] at h ⊢;exact h
 | e :: r,cs,h=>by
  rw[AllV] at h ⊢;obtain⟨c1,c2,hc,h1,h2⟩:=h;exact⟨c1,c2,hc,IsV.since s h1,AllV.since s h2⟩
end
mutual
theorem IsV.base{B B':AS}{w:World}(hb:∀k,B k->k<w.heap.size->B' k):∀{e:V} {cs:AR},IsV B w e cs->IsV B' w e cs
 | .mk k n t l,cs,h=>by
  rw[IsV] at h ⊢;obtain⟨sl,row,hc,h1,h2,h3,hr,ha⟩:=h;exact⟨sl,row,hc,h1,h2,h3,hr.base hb,AllV.base hb ha⟩
theorem AllV.base{B B':AS}{w:World}(hb:∀k,B k->k<w.heap.size->B' k):∀{l:List V} {cs:AR},AllV B w l cs->AllV B' w l cs
 | [],cs,h=>by rw[AllV] at h ⊢;exact h
 | e :: r,cs,h=>by
  rw[AllV] at h ⊢;obtain⟨c1,c2,hc,h1,h2⟩:=h;exact⟨c1,c2,hc,IsV.base hb h1,AllV.base hb h2⟩
end
theorem SlRow.slice{B:AS}{n:Nat}{row:AR}(h:SlRow B w sz v n row):∃ao cap,v=.slice ao n cap/\n<=cap/\cap<=maxLen:=by
 rcases h.2 with⟨h1 | ⟨a,cap,h1,h2⟩,h0⟩ | ⟨g,o,cap,h1,h2,h3,_⟩
 .exact⟨none,0,by rw[h1,h0],by omega,by unfold maxLen;omega⟩
 .exact⟨some a,cap,by rw[h1,h0],by omega,h2⟩
 .exact⟨_,cap,h1,h2,h3⟩
theorem heap_new(w:World)(o:Obj):(w.alloc o).heap[w.heap.size]?=some o:=by
 show (w.heap.push _)[w.heap.size]?=_;rw[Array.getElem?_push,if_pos rfl]
theorem cells_of4(h:w.heap[g]?=some (.cells #[y0,y1,y2,y3] T (0,0))):w.cell? ⟨g,0,none⟩=some y0/\w.cell? ⟨g,1,none⟩=some y1/\w.cell? ⟨g,2,none⟩=some y2/\w.cell? ⟨g,3,none⟩=some y3/\w.frozen? ⟨g,0,none⟩=false/\w.frozen? ⟨g,1,none⟩=false/\w.frozen? ⟨g,2,none⟩=false/\w.frozen? ⟨g,3,none⟩=false:=by
 refine⟨?_,?_,?_,?_,?_,?_,?_,?_⟩
 all_goals first | simp[World.cell?,h] | simp[World.frozen?,h]
theorem bcell{W:World}(hb:Below W.heap.size W w1):(∀b o,b<W.heap.size->w1.cell? ⟨b,o,none⟩=W.cell? ⟨b,o,none⟩)/\(∀b o,b<W.heap.size->w1.frozen? ⟨b,o,none⟩=W.frozen? ⟨b,o,none⟩):=
 ⟨λ b o h=>hb.cell (p:=⟨b,o,none⟩) h,λ b o h=>hb.frozen (p:=⟨b,o,none⟩) h⟩
theorem below_drewN(w:World)(n:Nat):Below w.heap.size w (w.drewN n):=⟨rfl,rfl,rfl,AD _,λ _ _=>rfl⟩
abbrev set4(w:World)(g:Nat)(x0 x1 x2 x3:Value):World:=(((w.setCell ⟨g,0,none⟩ x0).setCell ⟨g,1,none⟩ x1).setCell ⟨g,2,none⟩ x2).setCell ⟨g,3,none⟩ x3
theorem ret_int{k:IntKind}{a b:Int}(h:a=b):Ending.returned (.int k a)=.returned (.int k b):=by rw[h]
theorem ret_bool{a b:Bool}(h:a=b):Ending.returned (.bool a)=.returned (.bool b):=by rw[h]
end Vv
namespace Vv
def kd:Ty->Int
 | .int=>1 | .bool=>2 | .text=>3 | .list _=>4 | .map _ _=>5
def J4(s:AQ):Int:=match S7 s with
 | none=>0
 | some T=>kd T
def elT(s:AQ):List UInt8 × Bool:=match S7 s with
 | some (.list T)=>(tyT T,true)
 | _=>([],false)
def mpT(s:AQ):List UInt8 × List UInt8 × Bool:=match S7 s with
 | some (.map k T)=>(keyT k,tyT T,true)
 | _=>([],[],false)
def keyTy(k:Bool):Ty:=if k then .int else .text
theorem keyTy_T(k:Bool):tyT (keyTy k)=keyT k:=by cases k <;> rfl
theorem keyTy_dp(k:Bool):(keyTy k).dp=1:=by cases k <;> rfl
end Vv
namespace Vv
open Go.RowKit
theorem between_any(s a c:ByteArray)(w:World)(hs:s.size<=maxLen) :
  AA 150 #[.string s,.string a,.string c] w λ e w'=>(∃z,e=.returned (.tuple #[.string z,.bool (betw s.data.toList a.data.toList c.data.toList).isSome])/\z.size<=s.size/\∀y,betw s.data.toList a.data.toList c.data.toList=some y->z=⟨y.toArray⟩)/\w'=w:=by
 have hl:(Lib.trimPrefix s.data.toList a.data.toList).length<=s.size:=by
  unfold Lib.trimPrefix;have:s.data.toList.length=s.size:=by simp
  split <;> simp <;> omega
 have hz:(Lib.trimSuffix (Lib.trimPrefix s.data.toList a.data.toList) c.data.toList).length<=s.size:=by
  refine AP ?_ hl;generalize Lib.trimPrefix s.data.toList a.data.toList=q;unfold Lib.trimSuffix;split <;> simp
 have h1:=Tryz.strings_CutPrefix s a w;have h2:=Tryz.strings_CutSuffix ⟨(Lib.trimPrefix s.data.toList a.data.toList).toArray⟩ c w (by show (Lib.trimPrefix s.data.toList a.data.toList).toArray.size<=_;unfold maxLen at hs;simp;omega);have hr:(betw s.data.toList a.data.toList c.data.toList).isSome=(Lib.hasPrefix s.data.toList a.data.toList && Lib.hasSuffix (Lib.trimPrefix s.data.toList a.data.toList) c.data.toList):=by
  unfold betw;split
  .rename_i h;rw[h];rfl
  .rename_i h;simp only[Bool.not_eq_true] at h;rw[h];rfl
 have hy:∀y,betw s.data.toList a.data.toList c.data.toList=some y->y=Lib.trimSuffix (Lib.trimPrefix s.data.toList a.data.toList) c.data.toList:=by
  intro y h;unfold betw at h;split at h
  .simpa using h.symm
  .cases h
 rw[hr];have hd:(ByteArray.mk (Lib.trimPrefix s.data.toList a.data.toList).toArray).data.toList=Lib.trimPrefix s.data.toList a.data.toList:=by simp
 rw[hd] at h2;clear hd hl;generalize Lib.trimSuffix (Lib.trimPrefix s.data.toList a.data.toList) c.data.toList=z at *;generalize Lib.hasSuffix (Lib.trimPrefix s.data.toList a.data.toList) c.data.toList=q at *;generalize Lib.trimPrefix s.data.toList a.data.toList=z1 at *;generalize Lib.hasPrefix s.data.toList a.data.toList=p at *;have hf:(∃z':ByteArray,Ending.returned (.tuple #[.string ⟨z.toArray⟩,.bool (p && q)])=.returned (.tuple #[.string z',.bool (p && q)])/\z'.size<=s.size/\∀y,betw s.data.toList a.data.toList c.data.toList=some y->z'=⟨y.toArray⟩):=
  ⟨⟨z.toArray⟩,rfl,by show z.toArray.size<=_;simpa using hz,λ y h=>by rw[hy y h]⟩
 clear hy hr hz;cases p
 all_goals
  go_enter func150,ntmps150;go_wp2_with (go_at_call 172;refine h1.mono ?_;rintro e w' ⟨rfl,rfl⟩);go_wp2_with (go_at_call 173;refine h2.mono ?_;rintro e w' ⟨rfl,rfl⟩);go_wp2
  go_ret2
  exact⟨by simpa using hf,rfl⟩
theorem between_yes(s:ByteArray)(a c y:AQ)(w:World)(hs:s.size<=maxLen)(h:betw s.data.toList a c=some y) :
  AA 150 #[.string s,.string ⟨a.toArray⟩,.string ⟨c.toArray⟩] w λ e w'=>e=.returned (.tuple #[.string ⟨y.toArray⟩,.bool true])/\w'=w:=by
 refine (between_any s ⟨a.toArray⟩ ⟨c.toArray⟩ w hs).mono ?_;rintro e w' ⟨⟨z,rfl,_,hz⟩,rfl⟩;simp only[toList_toArray] at hz ⊢;rw[h,hz y h];exact⟨rfl,trivial⟩
theorem between_no(s:ByteArray)(a c:AQ)(w:World)(hs:s.size<=maxLen)(h:betw s.data.toList a c=none) :
  AA 150 #[.string s,.string ⟨a.toArray⟩,.string ⟨c.toArray⟩] w λ e w'=>(∃z,e=.returned (.tuple #[.string z,.bool false]))/\w'=w:=by
 refine (between_any s ⟨a.toArray⟩ ⟨c.toArray⟩ w hs).mono ?_;rintro e w' ⟨⟨z,rfl,_,hz⟩,rfl⟩;simp only[toList_toArray];rw[h];exact⟨⟨z,rfl⟩,trivial⟩
theorem element_no(s:ByteArray)(w:World)(hs:s.size<=maxLen)(h:elemT s.data.toList=none) :
  AA 122 #[.string s] w λ e w'=>(∃z,e=.returned (.tuple #[.string z,.bool false]))/\w'=w:=by
 unfold elemT at h;rcases e1:betw s.data.toList [91] [93] with _ | y1
 .rw[e1] at h;rcases e2:betw s.data.toList [123,105,110,116,58] [125] with _ | y2
  .rw[e2] at h;have h1:=between_no s _ _ w hs e1;have h2:=between_no s _ _ w hs e2;have h3:=between_no s _ _ w hs h;clear e1 e2 h;go_enter func122,ntmps122;go_wp2_with fail;refine h1.mono ?_;rintro e w' ⟨⟨z1,rfl⟩,rfl⟩;go_wp2_with fail;refine h2.mono ?_;rintro e w' ⟨⟨z2,rfl⟩,rfl⟩;go_wp2_with fail;refine h3.mono ?_;rintro e w' ⟨⟨z3,rfl⟩,rfl⟩;go_wp2
   go_ret2
   exact⟨⟨z3,rfl⟩,rfl⟩
  .rw[e2] at h;cases h
 .rw[e1] at h;cases h
theorem element_yes(s:ByteArray)(y:AQ)(w:World)(hs:s.size<=maxLen)(h:elemT s.data.toList=some y) :
  AA 122 #[.string s] w λ e w'=>e=.returned (.tuple #[.string ⟨y.toArray⟩,.bool true])/\w'=w:=by
 unfold elemT at h;rcases e1:betw s.data.toList [91] [93] with _ | y1
 .rw[e1] at h;rcases e2:betw s.data.toList [123,105,110,116,58] [125] with _ | y2
  .rw[e2] at h;have h1:=between_no s _ _ w hs e1;have h2:=between_no s _ _ w hs e2;have h3:=between_yes s _ _ y w hs h;clear e1 e2 h;go_enter func122,ntmps122;go_wp2_with fail;refine h1.mono ?_;rintro e w' ⟨⟨z1,rfl⟩,rfl⟩;go_wp2_with fail;refine h2.mono ?_;rintro e w' ⟨⟨z2,rfl⟩,rfl⟩;go_wp2_with fail;refine h3.mono ?_;rintro e w' ⟨rfl,rfl⟩;go_wp2
   go_ret2
   exact⟨rfl,rfl⟩
  .rw[e2] at h;simp only[Option.some.injEq] at h;subst h;have h1:=between_no s _ _ w hs e1;have h2:=between_yes s _ _ y2 w hs e2;clear e1 e2;go_enter func122,ntmps122;go_wp2_with fail;refine h1.mono ?_;rintro e w' ⟨⟨z1,rfl⟩,rfl⟩;go_wp2_with fail;refine h2.mono ?_;rintro e w' ⟨rfl,rfl⟩;go_wp2
   go_ret2
   exact⟨rfl,rfl⟩
 .rw[e1] at h;simp only[Option.some.injEq] at h;subst h;have h1:=between_yes s _ _ y1 w hs e1;clear e1;go_enter func122,ntmps122;go_wp2_with fail;refine h1.mono ?_;rintro e w' ⟨rfl,rfl⟩;go_wp2
  go_ret2
  exact⟨rfl,rfl⟩
theorem elem_len{s y:AQ}(h:elemT s=some y):y.length<=s.length:=by
 unfold elemT at h;rcases e1:betw s [91] [93] with _ | y1
 .rw[e1] at h;rcases e2:betw s [123,105,110,116,58] [125] with _ | y2
  .rw[e2] at h;rw[(betw_iff _ _ _ _).1 h];simp;omega
  .rw[e2] at h;simp only[Option.some.injEq] at h;subst h;rw[(betw_iff _ _ _ _).1 e2];simp;omega
 .rw[e1] at h;simp only[Option.some.injEq] at h;subst h;rw[(betw_iff _ _ _ _).1 e1];simp;omega
theorem bytes_of{l:AQ}(h:s.data.toList=l):s=⟨l.toArray⟩:=by
 cases s;simp at h;subst h;simp
theorem istype_any:∀(f d:Nat),d+f=5->∀(s:ByteArray) (w:World),s.size<=maxLen ->
  AA 87 #[.string s,iv d] w λ e w'=>e=.returned (.bool (tyF f s.data.toList))/\w'=w
 | 0,d,hd,s,w,hs=>by
  have a3:(4:Int)<(d:Int):=by omega
  go_enter func87,ntmps87;go_wp2;go_ret;exact⟨rfl,rfl⟩
 | f+1,d,hd,s,w,hs=>by
  have a3:¬(4:Int)<(d:Int):=by omega
  have ih:=istype_any f (d+1) (by omega);rw[tyF];by_cases c1:s.data.toList=[105,110,116]\/s.data.toList=[98,111,111,108]\/s.data.toList=[116,101,120,116]
  .rw[if_pos c1];have hl:s=⟨#[105,110,116]⟩\/s=⟨#[98,111,111,108]⟩\/s=⟨#[116,101,120,116]⟩:=by
    rcases c1 with h | h | h
    .exact AI (bytes_of h)
    .exact AJ (AI (bytes_of h))
    .exact AJ (AJ (bytes_of h))
   clear c1 ih;rcases hl with rfl | rfl | rfl
   all_goals
    go_enter func87,ntmps87;go_wp2;go_ret;exact⟨rfl,rfl⟩
  rw[if_neg c1];have q1:(s.toList == [105,110,116])=false:=by rw[ByteArray.toList_eq];simp;exact λ h=>c1 (AI h)
  have q2:(s.toList == [98,111,111,108])=false:=by rw[ByteArray.toList_eq];simp;exact λ h=>c1 (AJ (AI h))
  have q3:(s.toList == [116,101,120,116])=false:=by rw[ByteArray.toList_eq];simp;exact λ h=>c1 (AJ (AJ h))
  clear c1;rcases he:elemT s.data.toList with _ | y
  .have hE:=element_no s w hs he;go_enter func87,ntmps87;go_wp2_with fail;refine hE.mono ?_;rintro e w' ⟨⟨z,rfl⟩,rfl⟩;go_wp2;go_ret;exact⟨rfl,rfl⟩
  .have hE:=element_yes s y w hs he;have a0:(d:Int)+1<=9223372036854775807:=by omega
   have hl:=elem_len he;have hI:=ih ⟨y.toArray⟩ w (by show y.toArray.size<=_;have:s.data.toList.length=s.size:=(by simp);simp;omega);simp only[toList_toArray,Int.natCast_add,Int.cast_ofNat_Int] at hI;go_enter func87,ntmps87;go_wp2_with fail;refine hE.mono ?_;rintro e w' ⟨rfl,rfl⟩;go_wp2_with fail;refine hI.mono ?_;rintro e w' ⟨rfl,rfl⟩;go_wp2;go_ret;exact⟨rfl,rfl⟩
theorem stype_any(s:ByteArray)(w:World)(hs:s.size<=maxLen) :
  AA 59 #[.string s] w λ e w'=>e=.returned (.bool (gType s.data.toList))/\w'=w:=by
 have h:=istype_any 4 1 rfl s w hs;rw[<-gType_tyF] at h;go_enter func59,ntmps59;go_wp2_with (go_at_call 87;refine h.mono ?_;rintro e w' ⟨rfl,rfl⟩);go_ret;exact⟨rfl,rfl⟩
end Vv
namespace Vv
open Go.RowKit
theorem ext_list(s:ByteArray)(i j:Nat):(s.extract i j).data.toList=(s.data.toList.take j).drop i:=by
 rw[ByteArray.data_extract];simp[Array.toList_extract,extract_eq_take_drop];rw[take_drop];by_cases h:i<=j
 .rw[Nat.add_sub_of_le h]
 .rw[drop_eq_nil_of_le (by simp;omega),drop_eq_nil_of_le (by simp;omega)]
end Vv
namespace Vv
open Go.RowKit
theorem Ar5(l:AQ)(hl:l.length<=9223372036854775807)(w:World):AA 59 #[.string ⟨l.toArray⟩] w λ e w'=>e=.returned (.bool (gType l))/\w'=w:=by
 have:=stype_any ⟨l.toArray⟩ w (by show l.toArray.size<=maxLen;unfold maxLen;simpa using hl);simpa only[toList_toArray] using this
theorem Mq(l:AQ)(hl:l.length<=9223372036854775807)(w:World):AA 199 #[.string ⟨l.toArray⟩] w λ e w'=>e=.returned (iv (J4 l))/\w'=w:=by
 have hT:=Ar5 l hl w;unfold gType at hT;rcases h:S7 l with _ | T
 .rw[h] at hT;have hk:Hid (J4 l=0):=by show _=_;unfold J4;rw[h]
  clear h;go_enter func199,ntmps199;go_wp2_with (go_at_call 59;refine hT.mono ?_;rintro e w' ⟨rfl,rfl⟩);go_ret;exact⟨ret_int hk.out.symm,rfl⟩
 .rw[h] at hT;have hk:Hid (J4 l=kd T):=by show _=_;unfold J4;rw[h]
  obtain⟨h1,h2⟩:=(tyOf_iff _ _).1 h;have a0:=tyT_len T;clear h;subst h1;rcases T with _ | _ | _ | t | ⟨k,t⟩
  .go_enter func199,ntmps199;go_wp2_with (go_at_call 59;refine hT.mono ?_;rintro e w' ⟨rfl,rfl⟩);go_ret;exact⟨ret_int hk.out.symm,rfl⟩
  .go_enter func199,ntmps199;go_wp2_with (go_at_call 59;refine hT.mono ?_;rintro e w' ⟨rfl,rfl⟩);go_ret;exact⟨ret_int hk.out.symm,rfl⟩
  .go_enter func199,ntmps199;go_wp2_with (go_at_call 59;refine hT.mono ?_;rintro e w' ⟨rfl,rfl⟩);go_ret;exact⟨ret_int hk.out.symm,rfl⟩
  .have e:tyT (.list t)=91 :: (tyT t ++ [93]):=rfl;rw[e] at hT a0 hk ⊢;generalize tyT t ++ [93]=r at *;simp only[length_cons] at a0 hl;go_enter func199,ntmps199;go_wp2_with (go_at_call 59;refine hT.mono ?_;rintro e w' ⟨rfl,rfl⟩);go_ret;exact⟨ret_int hk.out.symm,rfl⟩
  .have e:tyT (.map k t)=123 :: (keyT k ++ ([58] ++ tyT t ++ [125])):=by simp[tyT]
   rw[e] at hT a0 hk ⊢;generalize keyT k ++ ([58] ++ tyT t ++ [125])=r at *;simp only[length_cons] at a0 hl;go_enter func199,ntmps199;go_wp2_with (go_at_call 59;refine hT.mono ?_;rintro e w' ⟨rfl,rfl⟩);go_ret;exact⟨ret_int hk.out.symm,rfl⟩
end Vv
namespace Vv
open Go.RowKit
theorem Aj2{l:AQ}(h:s.data.toList=l):s=⟨l.toArray⟩:=by
 cases s;simp at h;subst h;simp
theorem S9(a z:UInt8)(m:AQ)(hm:m.length<=1000)(w:World):AA 201 #[.string ⟨(a :: (m ++ [z])).toArray⟩] w λ e w'=>e=.returned (.string ⟨m.toArray⟩)/\w'=w:=by
 have hz:(⟨(a :: (m ++ [z])).toArray⟩:ByteArray).size=m.length+2:=by show (a :: (m ++ [z])).toArray.size=_;simp
 have he:(⟨(a :: (m ++ [z])).toArray⟩:ByteArray).extract 1 (m.length+2 - 1)=⟨m.toArray⟩:=Aj2 (by rw[ext_list];simp);generalize (⟨(a :: (m ++ [z])).toArray⟩:ByteArray)=s at *;go_enter func201,ntmps201;go_wp2;go_ret;exact⟨by first | rfl | exact congrArg (λ x=>Ending.returned (.string x)) he,rfl⟩
theorem Vn(s:ByteArray)(w:World)(hs:s.size<=281474976710656):AA 114 #[.string s] w λ e w'=>e=.returned (.string s)/\Below w.heap.size w w':=by
 go_enter func114,ntmps114;go_wp2_with (go_at_call 139;refine (Tryz.stringslite_Clone s _ hs).mono ?_;rintro e w1 ⟨rfl,hb⟩);go_ret;exact⟨rfl,hb⟩
theorem sclone_l(l:AQ)(w:World)(hs:l.length<=281474976710656):AA 114 #[.string ⟨l.toArray⟩] w λ e w'=>e=.returned (.string ⟨l.toArray⟩)/\Below w.heap.size w w':=Vn _ w (by show l.toArray.size<=_;simpa using hs)
theorem list_any(l:AQ)(hl:l.length<=9223372036854775807)(w:World):AA 198 #[.string ⟨l.toArray⟩] w λ e w'=>e=.returned (.tuple #[.string ⟨(elT l).1.toArray⟩,.bool (elT l).2])/\Below w.heap.size w w':=by
 have hK:=Mq l hl w;rcases h:S7 l with _ | T
 .have hk:J4 l=0:=by unfold J4;rw[h]
  have he:elT l=([],false):=by unfold elT;rw[h]
  rw[hk] at hK;rw[he];clear h hk he;go_enter func198,ntmps198;go_wp2_with (go_at_call 199;refine hK.mono ?_;rintro e w' ⟨rfl,rfl⟩)
  go_ret2
  exact⟨rfl,AF _ _⟩
 .have hk:J4 l=kd T:=by unfold J4;rw[h]
  obtain⟨h1,h2⟩:=(tyOf_iff _ _).1 h;rw[hk] at hK;by_cases h4:kd T=4
  .cases T with
   | list t=>
    have he:elT l=(tyT t,true):=by unfold elT;rw[h]
    rw[he];clear h hk he;subst h1;have a0:=tyT_len t;simp only[Ty.dp] at h2;have hI:=S9 91 93 (tyT t) (by omega) w;have hC:=sclone_l (tyT t) w (by omega);have e:tyT (.list t)=91 :: (tyT t ++ [93]):=rfl;rw[<-e] at hI;have e4:kd (.list t)=4:=rfl;rw[e4] at hK;clear e e4 h4 hl;generalize tyT (.list t)=z at *;generalize tyT t=y at *;clear a0;go_enter func198,ntmps198;go_wp2_with fail;refine hK.mono ?_;rintro e w' ⟨rfl,rfl⟩;go_wp2_with fail;refine hI.mono ?_;rintro e w' ⟨rfl,rfl⟩;go_wp2_with fail;refine hC.mono ?_;rintro e w' ⟨rfl,hb⟩;go_wp2
    go_ret2
    exact⟨rfl,hb⟩
   | _=>exact absurd h4 (by simp[kd])
  .have he:elT l=([],false):=by
    unfold elT;rw[h];cases T <;> first | rfl | exact absurd rfl h4
   rw[he];have a3:(kd T != 4)=true:=by simp[h4]
   clear h hk he h1;generalize kd T=z at *;go_enter func198,ntmps198;go_wp2_with (go_at_call 199;refine hK.mono ?_;rintro e w' ⟨rfl,rfl⟩)
   go_ret2
   exact⟨rfl,AF _ _⟩
theorem Aj3:∀(k:Bool) (y:AQ),Lib.indexByte (keyT k ++ 58 :: y) 58=(keyT k).length:=by
 intro k y;cases k <;> simp[keyT,Lib.indexByte]
theorem Aj4(k:Bool)(y:AQ)(w:World)(hy:y.length<=1000):AA 227 #[.string ⟨(keyT k ++ 58 :: y).toArray⟩,.string ⟨#[58]⟩] w λ e w'=>e=.returned (iv (keyT k).length)/\w'=w:=by
 have hI:=Tryz.stringslite_IndexByte ⟨(keyT k ++ 58 :: y).toArray⟩ 58 w;rw[show (⟨(keyT k ++ 58 :: y).toArray⟩:ByteArray).data.toList=keyT k ++ 58 :: y from by simp,show (58:Int).toNat.toUInt8=58 from by decide,Aj3] at hI;have a4:((⟨#[58]⟩:ByteArray).toList == (⟨(keyT k ++ 58 :: y).toArray⟩:ByteArray).toList)=false:=by
  rw[ByteArray.toList_eq,ByteArray.toList_eq];cases k <;> simp[keyT]
 have a0:(keyT k ++ 58 :: y == [58])=false:=by cases k <;> simp[keyT]
 have a3:([58] == keyT k ++ 58 :: y)=false:=by cases k <;> simp[keyT]
 generalize keyT k ++ 58 :: y=z at *;go_enter func227,ntmps227;go_wp2_with fail;refine hI.mono ?_;rintro e w' ⟨rfl,rfl⟩;go_wp2;go_ret;exact⟨rfl,rfl⟩
end Vv
section
namespace Vv
open Go Go.RowKit
section
variable {P:Program} {ops:Array Oper} {Q:Exit->Act->World->Prop} {md:Region.Mode} {S T:World->Prop} {N:Nat->Bool}
def wpE(P:Program)(md:Region.Mode)(ops:Array Oper)(Q:Exit->Act->World->Prop)(S:World->Prop)(N:Nat->Bool):Nat->Array Bool->Act->World->Prop
 | 0,listed,a,w=>Region.ready md ops listed=[]/\Q .normal a w
 | f+1,listed,a,w=>(Region.ready md ops listed=[]->Q .normal a w)/\∀i∈Region.ready md ops listed,wpOp P ops Q i (λ a' w'=>(N i=true->S w')/\wpE P md ops Q S N f (listed.setIfInBounds i true) a' w') a w
theorem wpE_any:∀(f:Nat) (listed:Array Bool) (a:Act) (w:World),wpE P md ops Q S N f listed a w->wpAny P md ops Q f listed a w
 | 0,_,_,_,h=>h
 | f+1,_,_,_,h=>⟨h.1,λ i hi=>wpOp_mono (λ a' w' hh=>wpE_any f _ a' w' hh.2) (h.2 i hi)⟩
theorem wpE_first{oi:Oper}(hi:ops[i]?=some oi)(a4:∀(j:Nat) (o:Oper) cs b,ops[j]?=some o->o.op≠.select cs b)(hQ:∀c a w,Q (.panic c) (a.put oi.dst v) w->Q (.panic c) a w)(a9:∀w,T w->N i=true->S w) :
  ∀(f:Nat) (listed:Array Bool) (a:Act) (w:World),
   (∀j oj,ops[j]?=some oj->j≠i->listed.getD j true=false->(∀e∈oj.after,Region.binds md e=true->e.on≠i)->oi.apart ops oj=true/\∀w',(N j=true->S w')->T w') ->
   i∈Region.ready md ops listed->YieldsIf P ops T oi v a->T w->wpE P md ops Q S N f (listed.setIfInBounds i true) (a.put oi.dst v) w->wpE P md ops Q S N (f+1) listed a w:=by
 intro f;induction f with
 | zero=>
  intro listed a w hfr hr hy hT H;refine⟨λ h=>absurd hr (by rw[h];simp),λ j hj=>?_⟩;by_cases hji:j=i
  .subst hji;exact hy.wpOp hi hT ⟨a9 w hT,H⟩
  .have h0:=ready_mono hj hji;rw[H.1] at h0;simp at h0
 | succ f ih=>
  intro listed a w hfr hr hy hT H;refine⟨λ h=>absurd hr (by rw[h];simp),λ j hj=>?_⟩;by_cases hji:j=i
  .subst hji;exact hy.wpOp hi hT ⟨a9 w hT,H⟩
  .have h1:=H.2 j (ready_mono hj hji);obtain⟨aa,oj,a5,a6⟩:=mem_ready.1 hj;have a7:∀e∈oj.after,Region.binds md e=true->e.on≠i:=by
    intro e he hb heq;have a0:=a6 e he hb;have a3:=(mem_ready.1 hr).1;rw[heq] at a0;by_cases hlt:i<listed.size
    .simp[hlt] at a3 a0;rw[a3] at a0;simp at a0
    .simp[Array.getElem?_eq_none (Nat.le_of_not_lt hlt)] at a0
   obtain⟨ab,ad⟩:=hfr j oj a5 hji aa a7;have h2:=wpOp_putIf a5 ab (λ cs b=>a4 i oi cs b hi) (λ cs b=>a4 j oj cs b a5) hQ hy h1;have a8:∀k ok,ops[k]?=some ok->k≠i->(listed.setIfInBounds j true).getD k true=false->(∀e∈ok.after,Region.binds md e=true->e.on≠i)->oi.apart ops ok=true/\∀w',(N k=true->S w')->T w':=by
    intro k ok hk hki hunk hno;refine hfr k ok hk hki ?_ hno;by_cases hjk:j=k
    .rw[<-hjk];exact aa
    .rw[getD_set_ne true hjk] at hunk;exact hunk
   refine wpOp_mono (λ a' w' h3=>⟨h3.2.1,ih _ a' w' a8 (ready_mono hr (λ e=>hji e.symm)) h3.1 (ad w' h3.2.1) ?_⟩) h2;rw[Array.setIfInBounds_comm _ _ hji];exact h3.2.2
def lateWait(md:Region.Mode)(ops:Array Oper)(N:Nat->Bool)(i:Nat):Bool:=(List.range ops.size).all λ j=>N j || j == i || ((ops[j]?).map λ o=>o.after.any λ e=>Region.binds md e && e.on == i).getD true
theorem lateWait_spec{oj:Oper}(h:lateWait md ops N i=true)(hj:ops[j]?=some oj)(a3:j≠i)(a0:∀e∈oj.after,Region.binds md e=true->e.on≠i):N j=true:=by
 have h1:=all_eq_true.1 h j (by simp;exact (AB hj).1);simp only[hj,Option.map_some,Option.getD_some,Bool.or_eq_true,beq_iff_eq] at h1;rcases h1 with (h1 | h1) | h1
 .exact h1
 .exact absurd h1 a3
 .obtain⟨e,he,hb⟩:=any_eq_true.1 (by rw[Array.any_toList];exact h1);simp only[Bool.and_eq_true,beq_iff_eq] at hb;exact absurd hb.2 (a0 e (by simpa using he) hb.1)
theorem wpE_take{oi:Oper}{a0:Array Bool}(hi:ops[i]?=some oi)(hs:Region.noSelect ops=true)(hf:Region.free md ops a0 i=true)(hr:(Region.ready md ops a0).contains i=true)(hl:lateWait md ops N i=true)
  (hQ:∀c a w,Q (.panic c) (a.put oi.dst v) w->Q (.panic c) a w) (hw:Region.wanted oi (yielded ops a.tmps)=true) (hy:∀w,S w->(execOp a.eval oi).run P w=.ok (.value v) w) (hS:S w) (h:wpE P md ops Q S N f (a0.setIfInBounds i true) (a.put oi.dst v) w):wpE P md ops Q S N (f+1) a0 a w:=
 wpE_first (T:=S) hi (Region.noSelect_spec hs) hQ (λ _ h _=>h) f a0 a w (λ j oj h1 h2 h3 h4=>⟨Region.free_spec hi hf j oj h1 h2 h3 h4,λ w' hw'=>hw' (lateWait_spec hl h1 h2 h4)⟩) (by simpa using hr) (AI ⟨hw,hy⟩) hS h
theorem wpE_takeL{oi:Oper}{a0:Array Bool}(hi:ops[i]?=some oi)(hs:Region.noSelect ops=true)(hf:Region.free md ops a0 i=true)(hr:(Region.ready md ops a0).contains i=true)(hN:N i=false)
  (hQ:∀c a w,Q (.panic c) (a.put oi.dst v) w->Q (.panic c) a w) (hw:Region.wanted oi (yielded ops a.tmps)=true) (hy:∀w,(execOp a.eval oi).run P w=.ok (.value v) w) (h:wpE P md ops Q S N f (a0.setIfInBounds i true) (a.put oi.dst v) w):wpE P md ops Q S N (f+1) a0 a w:=
 wpE_first (T:=λ _=>True) hi (Region.noSelect_spec hs) hQ (λ _ _ h=>by rw[hN] at h;simp at h) f a0 a w (λ j oj h1 h2 h3 h4=>⟨Region.free_spec hi hf j oj h1 h2 h3 h4,λ _ _=>trivial⟩) (by simpa using hr) (AI ⟨hw,λ w _=>hy w⟩) trivial h
theorem Vm{oi:Oper}{W:Nat->Bool}(hi:ops[i]?=some oi)(a5:∀(j:Nat) (o:Oper) cs b,ops[j]?=some o->o.op≠.select cs b)(hQ:∀c a w,Q (.panic c) (a.put oi.dst v) w->Q (.panic c) a w)(af:∀w,T w->N i=true->S w)
  (hW:∀j oj,ops[j]?=some oj->W j=true->∃e∈oj.after,Region.binds md e=true/\(e.on=i\/W e.on=true)) :
  ∀(f:Nat) (listed:Array Bool) (a:Act) (w:World),(∀j,W j=true->j<listed.size/\listed.getD j true=false) ->
   (∀j oj,ops[j]?=some oj->j≠i->W j=false->listed.getD j true=false->(∀e∈oj.after,Region.binds md e=true->e.on≠i)->oi.apart ops oj=true/\∀w',(N j=true->S w')->T w') ->
   i∈Region.ready md ops listed->YieldsIf P ops T oi v a->T w->wpE P md ops Q S N f (listed.setIfInBounds i true) (a.put oi.dst v) w->wpE P md ops Q S N (f+1) listed a w:=by
 intro f;induction f with
 | zero=>
  intro listed a w hWl hfr hr hy hT H;refine⟨λ h=>absurd hr (by rw[h];simp),λ j hj=>?_⟩;by_cases hji:j=i
  .subst hji;exact hy.wpOp hi hT ⟨af w hT,H⟩
  .have h0:=ready_mono hj hji;rw[H.1] at h0;simp at h0
 | succ f ih=>
  intro listed a w hWl hfr hr hy hT H;refine⟨λ h=>absurd hr (by rw[h];simp),λ j hj=>?_⟩;by_cases hji:j=i
  .subst hji;exact hy.wpOp hi hT ⟨af w hT,H⟩
  .have h1:=H.2 j (ready_mono hj hji);obtain⟨ae,oj,a8,a6⟩:=mem_ready.1 hj;have ab:¬(listed.getD i false=true):=by
    have a3:=(mem_ready.1 hr).1;by_cases hlt:i<listed.size
    .simp[hlt] at a3 ⊢;exact a3
    .simp[Array.getElem?_eq_none (Nat.le_of_not_lt hlt)]
   have a4:∀e∈oj.after,Region.binds md e=true->e.on≠i:=by
    intro e he hb heq;have a0:=a6 e he hb;rw[heq] at a0;exact ab (by simpa using a0)
   have aa:W j=false:=by
    rcases hw:W j with _ | _
    .rfl
    .obtain⟨e,he,hb,ho⟩:=hW j oj a8 hw;have a0:=a6 e he hb;rcases ho with ho | ho
     .exact absurd ho (a4 e he hb)
     .obtain⟨h2,h3⟩:=hWl _ ho;simp[h2] at a0 h3;rw[h3] at a0;cases a0
   obtain⟨ag,ah⟩:=hfr j oj a8 hji aa ae a4;have h2:=wpOp_putIf a8 ag (λ cs b=>a5 i oi cs b hi) (λ cs b=>a5 j oj cs b a8) hQ hy h1;have a9:∀k,W k=true->k<(listed.setIfInBounds j true).size/\(listed.setIfInBounds j true).getD k true=false:=by
    intro k hk;have a7:j≠k:=by rintro rfl;rw[hk] at aa;cases aa
    obtain⟨g1,g2⟩:=hWl k hk;exact⟨by simpa using g1,by rw[getD_set_ne true a7];exact g2⟩
   have ad:∀k ok,ops[k]?=some ok->k≠i->W k=false->(listed.setIfInBounds j true).getD k true=false->(∀e∈ok.after,Region.binds md e=true->e.on≠i)->oi.apart ops ok=true/\∀w',(N k=true->S w')->T w':=by
    intro k ok hk hki hwk hunk hno;refine hfr k ok hk hki hwk ?_ hno;by_cases a7:j=k
    .rw[<-a7];exact ae
    .rw[getD_set_ne true a7] at hunk;exact hunk
   refine wpOp_mono (λ a' w' h3=>⟨h3.2.1,ih _ a' w' a9 ad (ready_mono hr (λ e=>hji e.symm)) h3.1 (ah w' h3.2.1) ?_⟩) h2;rw[Array.setIfInBounds_comm _ _ hji];exact h3.2.2
def waitW(md:Region.Mode)(ops:Array Oper)(N W:Nat->Bool)(listed:Array Bool)(i:Nat):Bool:=(List.range ops.size).all λ j=>if W j then (listed[j]? == some false) && ((ops[j]?).map λ o=>o.after.any λ e=>Region.binds md e && (e.on == i || W e.on)).getD false else (N j || j == i)
theorem wpE_takeW{oi:Oper}{a0:Array Bool}(W:Nat->Bool)(hi:ops[i]?=some oi)(hs:Region.noSelect ops=true)(hf:Region.free md ops a0 i=true)(hr:(Region.ready md ops a0).contains i=true)(hl:waitW md ops N W a0 i=true)(a4:∀j,W j=true->j<ops.size)
  (hQ:∀c a w,Q (.panic c) (a.put oi.dst v) w->Q (.panic c) a w) (hw:Region.wanted oi (yielded ops a.tmps)=true) (hy:∀w,S w->(execOp a.eval oi).run P w=.ok (.value v) w) (hS:S w) (h:wpE P md ops Q S N f (a0.setIfInBounds i true) (a.put oi.dst v) w):wpE P md ops Q S N (f+1) a0 a w:=by
 have a3:=all_eq_true.1 hl;refine Vm (T:=S) (W:=W) hi (Region.noSelect_spec hs) hQ (λ _ h _=>h) ?_ f a0 a w ?_ (λ j oj h1 h2 hWj h3 h4=>⟨Region.free_spec hi hf j oj h1 h2 h3 h4,λ w' hw'=>hw' ?_⟩) (by simpa using hr) (AI ⟨hw,hy⟩) hS h
 .intro j oj hj hWj;have h1:=a3 j (by simp;exact (AB hj).1);simp only[hWj,if_true,hj,Option.map_some,Option.getD_some,Bool.and_eq_true] at h1;obtain⟨e,he,hb⟩:=any_eq_true.1 (by rw[Array.any_toList];exact h1.2);simp only[Bool.and_eq_true,Bool.or_eq_true,beq_iff_eq] at hb;exact⟨e,by simpa using he,hb.1,hb.2⟩
 .intro j hWj;have h1:=a3 j (by simp;exact a4 j hWj);simp only[hWj,if_true,Bool.and_eq_true,beq_iff_eq] at h1;obtain⟨h2,h3⟩:=AB h1.1;exact⟨h2,by simp[h2,h3]⟩
 .have h5:=a3 j (by simp;exact (AB h1).1);simp only[hWj,Bool.false_eq_true,if_false,Bool.or_eq_true,beq_iff_eq] at h5;rcases h5 with h5 | h5
  .exact h5
  .exact absurd h5 h2
theorem wpE_one{a0:Array Bool}{oi:Oper}(hr:Region.ready md ops a0=[i])(hi:ops[i]?=some oi)(hw:Region.wanted oi (yielded ops a.tmps)=true)
  (h:∀K:Act->World->Prop,(∀a' w',(N i=true->S w')->wpE P md ops Q S N f (a0.setIfInBounds i true) a' w'->K a' w')->oi.wp P a w K Q):wpE P md ops Q S N (f+1) a0 a w:=by
 refine⟨λ h0=>by rw[hr] at h0;simp at h0,λ j hj=>?_⟩;rw[hr] at hj;simp at hj;subst hj;unfold wpOp;simp only[hi,hw,if_true];exact AI (h _ (λ a' w' h1 h2=>⟨h1,h2⟩))
theorem wpE_two{a0:Array Bool}{oi oj:Oper}(hr:Region.ready md ops a0=[i,j])(hi:ops[i]?=some oi)(hj:ops[j]?=some oj)(a3:Region.wanted oi (yielded ops a.tmps)=true)(a4:Region.wanted oj (yielded ops a.tmps)=true)
  (h1:∀K:Act->World->Prop,(∀a' w',(N i=true->S w')->wpE P md ops Q S N f (a0.setIfInBounds i true) a' w'->K a' w')->oi.wp P a w K Q)
  (h2:∀K:Act->World->Prop,(∀a' w',(N j=true->S w')->wpE P md ops Q S N f (a0.setIfInBounds j true) a' w'->K a' w')->oj.wp P a w K Q):wpE P md ops Q S N (f+1) a0 a w:=by
 refine⟨λ h0=>by rw[hr] at h0;simp at h0,λ k hk=>?_⟩;rw[hr] at hk;simp at hk;unfold wpOp;rcases hk with rfl | rfl
 .simp only[hi,a3,if_true];exact AI (h1 _ (λ a' w' h1 h2=>⟨h1,h2⟩))
 .simp only[hj,a4,if_true];exact AI (h2 _ (λ a' w' h1 h2=>⟨h1,h2⟩))
theorem wpE_done{a0:Array Bool}(hr:Region.ready md ops a0=[])(h:Q .normal a w):wpE P md ops Q S N f a0 a w:=by
 cases f with
 | zero=>exact⟨hr,h⟩
 | succ f=>exact⟨λ _=>h,by rw[hr];simp⟩
theorem wpE_begin{id:Nat}(hm:P.follows .mixedOrders=true)(h:wpE P .any ops Q S N ops.size (Array.replicate ops.size false) a w.drew):(Code.region id ops true).wp P Q a w:=wp_region_any hm (wpE_any _ _ _ _ h)
end
end Vv
end
namespace Vv
open Go.RowKit
theorem Ay3(k:Bool)(y:AQ)(w:World)(hy:y.length<=1000):AA 220 #[.string ⟨(keyT k ++ 58 :: y).toArray⟩,.string ⟨#[58]⟩] w λ e w'=>e=.returned (.tuple #[.string ⟨(keyT k).toArray⟩,.string ⟨y.toArray⟩,.bool true])/\Below w.heap.size w w':=by
 have hI:=Aj4 k y w hy;have hz:(⟨(keyT k ++ 58 :: y).toArray⟩:ByteArray).size=(keyT k).length+1+y.length:=by show (keyT k ++ 58 :: y).toArray.size=_;simp;omega
 have h1:(⟨(keyT k ++ 58 :: y).toArray⟩:ByteArray).extract 0 (keyT k).length=⟨(keyT k).toArray⟩:=Aj2 (by rw[ext_list];simp);have h2:(⟨(keyT k ++ 58 :: y).toArray⟩:ByteArray).extract ((keyT k).length+1) ((keyT k).length+1+y.length)=⟨y.toArray⟩:=Aj2 (by
  rw[ext_list,take_of_length_le (by simp;omega),drop_append];simp)
 have a0:(keyT k).length<=4:=by cases k <;> simp[keyT]
 generalize (⟨(keyT k ++ 58 :: y).toArray⟩:ByteArray)=s at *;generalize hn:(keyT k).length=n at *;clear hn;generalize keyT k=kt at *;have b1:(0:Int)<=(n:Int):=by omega
 have b2:(n:Int)<=(s.size:Int):=by omega
 have b3:(n:Int)+1<=(s.size:Int):=by omega
 go_enter func220,ntmps220;go_wp2_with fail;refine hI.mono ?_;rintro e w' ⟨rfl,rfl⟩;clear hI;go_wp2_with fail
 go_quiet (fail)
 go_wp2
 go_ret3
 exact⟨rfl,below_drewN _ _⟩
theorem Ay4(k:Bool)(y:AQ)(w:World)(hy:y.length<=1000):AA 200 #[.string ⟨(keyT k ++ 58 :: y).toArray⟩,.string ⟨#[58]⟩] w λ e w'=>e=.returned (.tuple #[.string ⟨(keyT k).toArray⟩,.string ⟨y.toArray⟩,.bool true])/\Below w.heap.size w w':=by
 have hI:=Ay3 k y w hy;generalize (⟨(keyT k ++ 58 :: y).toArray⟩:ByteArray)=s at *;go_enter func200,ntmps200;go_wp2_with fail;refine hI.mono ?_;rintro e w' ⟨rfl,hb⟩;clear hI;go_wp2
 go_ret3
 exact⟨rfl,hb⟩
theorem map_any(l:AQ)(hl:l.length<=9223372036854775807)(w:World):AA 171 #[.string ⟨l.toArray⟩] w λ e w'=>e=.returned (.tuple #[.string ⟨(mpT l).1.toArray⟩,.string ⟨(mpT l).2.1.toArray⟩,.bool (mpT l).2.2])/\Below w.heap.size w w':=by
 have hK:=Mq l hl w;rcases h:S7 l with _ | T
 .have hk:J4 l=0:=by unfold J4;rw[h]
  have he:mpT l=([],[],false):=by unfold mpT;rw[h]
  rw[hk] at hK;rw[he];clear h hk he;go_enter func171,ntmps171;go_wp2_with (go_at_call 199;refine hK.mono ?_;rintro e w' ⟨rfl,rfl⟩)
  go_ret3
  exact⟨rfl,AF _ _⟩
 .have hk:J4 l=kd T:=by unfold J4;rw[h]
  obtain⟨h1,h2⟩:=(tyOf_iff _ _).1 h;rw[hk] at hK;by_cases h4:kd T=5
  .cases T with
   | map k t=>
    have he:mpT l=(keyT k,tyT t,true):=by unfold mpT;rw[h]
    rw[he];clear h hk he;subst h1;have a0:=tyT_len t;have a5:(keyT k).length<=4:=by cases k <;> simp[keyT]
    simp only[Ty.dp] at h2;have hI:=S9 123 125 (keyT k ++ 58 :: tyT t) (by simp;omega) w;have hC:=Ay4 k (tyT t) w (by omega);have a8:=λ w=>sclone_l (keyT k) w (by omega)
    have a6:=λ w=>sclone_l (tyT t) w (by omega)
    have e:tyT (.map k t)=123 :: ((keyT k ++ 58 :: tyT t) ++ [125]):=by simp[tyT]
    rw[<-e] at hI;have e4:kd (.map k t)=5:=rfl;rw[e4] at hK;clear e e4 h4 hl;generalize tyT (.map k t)=z at *;generalize keyT k ++ 58 :: tyT t=m at *;generalize tyT t=y at *;generalize keyT k=kt at *;clear a0 a5;go_enter func171,ntmps171;go_wp2_with fail;refine hK.mono ?_;rintro e w' ⟨rfl,rfl⟩;go_wp2_with fail;refine hI.mono ?_;rintro e w' ⟨rfl,rfl⟩;go_wp2_with fail;refine hC.mono ?_;rintro e w2 ⟨rfl,a3⟩;go_wp2_with fail;refine (a8 _).mono ?_;rintro e w3 ⟨rfl,a4⟩;go_wp2_with fail;refine (a6 _).mono ?_;rintro e w4 ⟨rfl,a7⟩;go_wp2
    go_ret3
    exact⟨rfl,a3.trans ((a4.trans (a7.mono a4.size)).mono a3.size)⟩
   | _=>exact absurd h4 (by simp[kd])
  .have he:mpT l=([],[],false):=by
    unfold mpT;rw[h];cases T <;> first | rfl | exact absurd rfl h4
   rw[he];have a9:(kd T != 5)=true:=by simp[h4]
   clear h hk he h1;generalize kd T=z at *;go_enter func171,ntmps171;go_wp2_with (go_at_call 199;refine hK.mono ?_;rintro e w' ⟨rfl,rfl⟩)
   go_ret3
   exact⟨rfl,AF _ _⟩
end Vv
end
end Go.Proofs.YtpckmjfabiallaaGreatDoor
