/- Pt01 -/
import Derived.Laws.AppendOwn
import Derived.Laws.OwnMore
import Derived.Laws.StructEq
import Derived.Test.YtjjnbgoepbiojaaPt00
import Derived.Test.YtjjnbgoepbiojaaProg
set_option maxRecDepth 100000
set_option linter.unusedVariables false
set_option linter.unusedSimpArgs false
set_option linter.unnecessarySimpa false
namespace Go.Proofs.Ytjjnbgoepbiojaa.Ex
open Go.Proofs.Try
open Go.RowKit
abbrev Mz:=Option (List Prop×List Fact×Option Nat)
def Mu:At→Bool
 | .c v=>tR v
 | _=>true
def LQ (M:List Fact):List AV→Option (List Value)
 | []=>some []
 | .im v::r=>match LQ M r with|some l=>some (v::l)|none=>none
 | .pt k o::r=>match nW M k,LQ M r with|some b,some l=>some (.pointer (some ⟨b,o,none⟩)::l)|_,_=>none
 | _::_=>none
def IV (M:List Fact) (ky:Option Nat) (v:Value):Option (List Prop×AV) :=
 match ky with
 | none=>some ([],.im v)
 | some k=>match v,nW M k with
  | .slice (some ⟨b,0,none⟩) n m,some b'=>some ([b=b'],.sl k 0 n m)
  | .pointer (some ⟨b,0,none⟩),some b'=>some ([b=b'],.pt k 0)
  | _,_=>none
def aD (op:BinOp) (k:IntKind) (a b:Int):Option Value :=
 match op with
 | .add=>some (.int k (k.wrap (a+b)))
 | .sub=>some (.int k (k.wrap (a-b)))
 | .mul=>some (.int k (k.wrap (a*b)))
 | .rem=>if b=0 then none else some (.int k (a.tmod b))
 | .quo=>if b=0 then none else some (.int k (k.wrap (a.tdiv b)))
 | .eql=>some (.bool (a==b))
 | .neq=>some (.bool (a != b))
 | .lss=>some (.bool (decide (a<b)))
 | .leq=>some (.bool (decide (a≤b)))
 | .gtr=>some (.bool (decide (a>b)))
 | .geq=>some (.bool (decide (a≥b)))
 | _=>none
def Wm (E:Env) (d:Nat) (op:BinOp) (t:Nat) (x y:AV):Mz :=
 match x,y with
 | .im (.int k a),.im (.int k' b)=>if k=k' then (match E.num d with
  | some v=>some ([aD op k a b=some v],[.slot d (.im v)],none)
  | none=>match aD op k a b with|some v=>some ([],[.slot d (.im v)],none)|none=>none)else none
 | .im (.bool a),.im (.bool b)=>match E.P.underlying t with
  | some .bool=>(match op with
   | .eql=>some ([],[.slot d (.im (.bool (a==b)))],none)
   | .neq=>some ([],[.slot d (.im (.bool (a != b)))],none)
   | _=>none)
  | _=>none
 | .fl l,.fl m=>bif E.q.fit t l&&E.q.fit t m then
   (bif E.hint d then (match E.q.q t with
    | some n=>bif Nat.beq (cR l) n&&Nat.beq (cR m) n then
      (match op with
      | .eql=>some ([aB l=aB m],[.slot d (.im (.bool true))],none)
      | .neq=>some ([aB l=aB m],[.slot d (.im (.bool false))],none)
      | _=>none)else none
    | none=>none)
   else (match E.q.n t with
    | some n=>bif Nat.beq (cR l) n&&Nat.beq (cR m) n then
      (match op with
      | .eql=>some ([aB l≠aB m],[.slot d (.im (.bool false))],none)
      | .neq=>some ([aB l≠aB m],[.slot d (.im (.bool true))],none)
      | _=>none)else none
    | none=>none))else none
 | _,_=>none
def Wn (P:Program) (t:Nat):Option (Nat×Nat×Nat):=match P.underlying t with
 | some (.slice e)=>(match P.info? e with
  | some i=>(match i.zero with
   | some z=>bif Nat.beq z.cells.size i.size&&Nat.blt 0 i.size then some (e,i.size,i.bytes)else none
   | none=>none)
  | none=>none)
 | _=>none
def Ye (M:List Fact) (sz:Nat):AV→Option (Nat×List At)
 | .sl k o n m=>match cX M k with
  | some (_,l)=>(match Mt l o with|some r=>(match tk r (n*sz)with|some t=>some (n,t)|none=>none)|none=>none)
  | none=>none
 | .so k n=>match cX M k with
  | some (_,l)=>(match tk l (n*sz)with|some t=>some (n,t)|none=>none)
  | none=>none
 | _=>none
def apD (M:List Fact) (e sz:Nat):AV→Option (Nat×List At×Option Nat)
 | .im (.slice none 0 0)=>some (0,[],none)
 | .so k n=>match cX M k,mZ M k with
  | some (true,l),some (e',sz',n')=>bif Nat.beq e e'&&(Nat.beq sz sz'&&(Nat.beq n n'&&Nat.beq (cR l) (n*sz)))then some (n,l,some k)else none
  | _,_=>none
 | _=>none
def apV (E:Env) (M:List Fact) (sz d:Nat) (v:AV):Option (Nat×List At×List Prop):=match E.q.x.ld d with
 | some news=>(match v with
  | .sl k o n _=>(match cX M k with|some (_,l)=>some (n,news,[sL l o (n*sz)=some news])|none=>none)
  | .so k n=>(match cX M k with|some (_,l)=>some (n,news,[sL l 0 (n*sz)=some news])|none=>none)
  | .im (.slice (some ⟨b,o,.none⟩) n _)=>some (n,news,[E.q.x.old b o news,cR news=n*sz])
  | _=>none)
 | none=>(match Ye M sz v with|some (m,t)=>some (m,t,[])|none=>none)
def apW (M:List Fact) (e sz:Nat):AV→Option (Nat×List At×Option Nat×List Prop)
 | .im (.slice none 0 0)=>some (0,[],none,[])
 | .so k n=>match cX M k,mZ M k with
  | some (true,l),some (e',sz',n')=>bif Nat.beq e e'&&Nat.beq sz sz' then some (n,l,some k,[n=n',cR l=n*sz])else none
  | _,_=>none
 | _=>none
def FG (P:Program) (t:Nat) (name:String):Option Nat :=
 match P.info? t,P.underlying t with
 | some i,some d=>(match d with
  | .pointer _=>none
  | _=>(match i.methods.find? (·.name==name)with
   | some m=>(match m.path.toList,m.func with
    | [],some (f,false)=>some f
    | _,_=>none)
   | none=>none))
 | _,_=>none
def RC (P:Program) (t:Nat):Bool:=match P.underlying t with|some (.interface _)=>true|some _=>false|none=>true
def iY (P:Program) (t:Nat):Bool:=match P.underlying t with|some (.struct _)=>false|some (.array _ _)=>false|some _=>true|none=>false
def wrA (M:List Fact) (d:Nat) (pre:List Prop) (v:Option AV) (l':List At):Mz:=match v with
 | some (.so k n)=>(match cX M k with
  | some (true,l)=>bif !(Nat.beq k d)then some (pre,[.slot d (.so k n),.row k true l'],some k)else none
  | _=>none)
 | some (.sl k 0 n m)=>(match cX M k with
  | some (true,l)=>bif !(Nat.beq k d)then some (pre,[.slot d (.sl k 0 n m),.row k true l'],some k)else none
  | _=>none)
 | _=>none
def wrP (M:List Fact) (d:Nat) (pre:List Prop) (v:Option AV) (r:RV) (l':List At):Mz:=match v with
 | some (.pt k o)=>(match cX M k with
  | some (true,l)=>bif !(Nat.beq k d)then some (pre,[.slot d r.av,.row k true l'],some k)else none
  | _=>none)
 | _=>none
def gZ:Option Nat→Nat→Bool
 | some d,s=>Nat.beq d s
 | none,_=>false
theorem cM {d:Option Nat} {s:Nat}:gZ d s=true↔d=some s:=by
 cases d with
 | none=>simp[gZ]
 | some x=>simp[gZ]
def Xw (M:List Fact) (k b:Nat):AV→Option (List Prop×CB)
 | .im v=>some ([],.v (.im v))
 | .fl l=>some ([],.v (.fl l))
 | .sl k' o n m=>bif Nat.beq k' k then some ([],.sl o n m)else (match cX M k',nW M k' with
  | some (_,l),some b'=>(match Mt l o with|some r=>some ([b'≠b],.r r n m)|none=>none)
  | _,_=>none)
 | .pt k' o=>bif Nat.beq k' k then some ([],.pt o)else none
 | _=>none
def Bo (M:List Fact) (k b:Nat):List AV→Option (List Prop×List CB)
 | []=>some ([],[])
 | v::r=>match Xw M k b v,Bo M k b r with|some (p,c),some (ps,l)=>some (p++ps,c::l)|_,_=>none
def SW (j:Option Nat) (b:Nat):Nat→List Value→List Prop×List CB
 | _,[]=>([],[])
 | i,v::r=>match SW j b (i+1) r with
  | (ps,l)=>bif gZ j i then (match v with
   | .pointer (some ⟨c,o,.none⟩)=>((c=b)::ps,.pt o::l)
   | v=>(ps,.v (.im v)::l))else (ps,.v (.im v)::l)
def bM (E:Env) (M:List Fact) (d:Nat):Op→Mz
 | .move x=>match ev M x with|some v=>some ([],[.slot d v],none)|none=>none
 | .assign x=>match ev M x with|some v=>some ([],[.slot d v],none)|none=>none
 | .pick c x y=>match ev M c,ev M x,ev M y with
  | some (.im (.bool b)),some v,some u=>some ([],[.slot d (bif b then v else u)],none)
  | _,_,_=>none
 | .alloc t=>match Cq E.P t with|some l=>some ([],[.slot d (.pt d 0),.row d true l],none)|none=>none
 | .box t x=>match ev M x with
  | some v=>match BG v with|some p=>some ([],[.slot d (.pt d 0),.row d true p],none)|none=>none
  | none=>none
 | .build t ps=>match nO M ps.toList with
  | some qs=>match GJ E.P t qs with|some l=>some ([],[.slot d (.fl (nq l))],none)|none=>none
  | none=>none
 | .buildSlice t n ps=>match nO M ps.toList with
  | some qs=>match JX E.P t n qs with|some l=>some ([],[.slot d (.sl d 0 n n),.row d true l],none)|none=>none
  | none=>none
 | .load t x=>match ev M x with
  | some (.pt k o)=>match cX M k,dL E.P t,nS E.P t with
   | some (_,l),some n,true=>match E.q.x.ld d with
    | some s=>some ([sL l o n=some s],[.slot d (.fl s)],none)
    | none=>match sL l o n with|some s=>some ([],[.slot d (.fl s)],none)|none=>none
   | some (_,l),some 1,false=>bif iY E.P t then (match E.q.x.gen d with
    | some v=>(match IV M (E.q.x.ky d) v with|some (p,u)=>some ((cellAt l o=some v)::p,[.slot d u],none)|none=>none)
    | none=>match cellAt l o with
     | some v=>(match IV M (E.q.x.ky d) v with|some (p,u)=>some (p,[.slot d u],none)|none=>none)
     | none=>none)else none
   | _,_,_=>none
  | some (.im (.pointer (some ⟨b,o,.none⟩)))=>match dL E.P t,nS E.P t with
   | some n,true=>(match E.q.x.ld d with
    | some s=>some ([E.q.x.old b o s,cR s=n],[.slot d (.fl s)],none)
    | none=>none)
   | some 1,false=>bif iY E.P t then (match E.q.x.gen d with
    | some v=>some ([E.q.x.old b o [.c v]],[.slot d (.im v)],none)
    | none=>none)else none
   | _,_=>none
  | _=>none
 | .makeInterface t x=>match ev M x with
  | some (.fl l)=>bif RC E.P t then none else some ([],[.slot d (.ic t l)],none)
  | _=>none
 | .nilCheck x=>match ev M x with
  | some (.pt k o)=>some ([],[.slot d (.pt k o)],none)
  | some (.im (.pointer (some p)))=>some ([],[.slot d (.im (.pointer (some p)))],none)
  | _=>none
 | .fieldAddr s x i=>match ev M x,E.P.underlying s with
  | some (.pt k o),some (.struct fs)=>match fs[i]? with
   | some f=>match dL E.P f.type with
    | some n=>bif Nat.beq n 0 then none else some ([],[.slot d (.pt k (o+f.offset))],none)
    | none=>none
   | none=>none
  | some (.im (.pointer (some ⟨b,o,.none⟩))),some (.struct fs)=>match fs[i]? with
   | some f=>match dL E.P f.type with
    | some n=>bif Nat.beq n 0 then none else some ([],[.slot d (.im (.pointer (some ⟨b,o+f.offset,.none⟩)))],none)
    | none=>none
   | none=>none
  | _,_=>none
 | .indexAddr t x y=>match E.q.x.idx d with
  | some j=>(match ev M x,ev M y,E.P.underlying t with
   | some (.pt k o),some (.im (.int kd i)),some (.array n e)=>(match dL E.P e with
    | some s=>some ([i=Int.ofNat j,j<n],[.slot d (.pt k (o+j*s))],none)
    | none=>none)
   | some (.sl k o n m),some (.im (.int kd i)),some (.slice e)=>(match dL E.P e with
    | some s=>some ([i=Int.ofNat j,j<n],[.slot d (.pt k (o+j*s))],none)
    | none=>none)
   | some (.im (.pointer (some ⟨b,o,.none⟩))),some (.im (.int kd i)),some (.array n e)=>(match dL E.P e with
    | some s=>some ([i=Int.ofNat j,j<n],[.slot d (.im (.pointer (some ⟨b,o+j*s,.none⟩)))],none)
    | none=>none)
   | some (.im (.slice (some ⟨b,o,.none⟩) n m)),some (.im (.int kd i)),some (.slice e)=>(match dL E.P e with
    | some s=>some ([i=Int.ofNat j,j<n],[.slot d (.im (.pointer (some ⟨b,o+j*s,.none⟩)))],none)
    | none=>none)
   | _,_,_=>none)
  | none=>match ev M x,ev M y with
  | some (.pt k o),some (.im (.int kd (.ofNat i)))=>match E.P.underlying t with
   | some (.array n e)=>match dL E.P e with
    | some s=>bif Nat.blt i n then some ([],[.slot d (.pt k (o+i*s))],none)else none
    | none=>none
   | _=>none
  | some (.sl k o n m),some (.im (.int kd (.ofNat i)))=>match E.P.underlying t with
   | some (.slice e)=>match dL E.P e with
    | some s=>bif Nat.blt i n then some ([],[.slot d (.pt k (o+i*s))],none)else none
    | none=>none
   | _=>none
  | some (.so k n),some (.im (.int kd (.ofNat i)))=>match E.P.underlying t with
   | some (.slice e)=>match dL E.P e with
    | some s=>bif Nat.blt i n then some ([],[.slot d (.pt k (i*s))],none)else none
    | none=>none
   | _=>none
  | _,_=>none
 | .index t x y=>match E.q.x.gen d with
  | some v=>(match ev M x,ev M y,E.P.underlying t with
   | some (.fl l),some (.im (.int kd (.ofNat i))),some (.array n e)=>(match dL E.P e with
    | some 1=>bif iY E.P e then some ([i<n,cellAt l i=some v],[.slot d (.im v)],none)else none
    | _=>none)
   | _,_,_=>none)
  | none=>match ev M x,ev M y with
  | some (.fl l),some (.im (.int kd (.ofNat i)))=>match E.P.underlying t with
   | some (.array n e)=>match dL E.P e,nS E.P e with
    | some s,true=>bif Nat.blt i n then (match sL l (i*s) s with|some r=>some ([],[.slot d (.fl r)],none)|none=>none)else none
    | some 1,false=>bif iY E.P e&&Nat.blt i n then (match cellAt l i with|some v=>some ([],[.slot d (.im v)],none)|none=>none)else none
    | _,_=>none
   | _=>none
  | _,_=>none
 | .field s x i=>match ev M x,E.P.underlying s with
  | some (.fl l),some (.struct fs)=>match fs[i]? with
   | some f=>match dL E.P f.type,nS E.P f.type with
    | some n,true=>(match sL l f.offset n with|some r=>some ([],[.slot d (.fl r)],none)|none=>none)
    | some 1,false=>bif iY E.P f.type then (match cellAt l f.offset with|some v=>some ([],[.slot d (.im v)],none)|none=>none)else none
    | _,_=>none
   | none=>none
  | _,_=>none
 | .extract x i=>match ev M x with
  | some (.tu l)=>match l[i]? with|some t=>some ([],[.slot d t.av],none)|none=>none
  | some (.tf k n m post)=>match i with
   | 0=>some ([],[.slot d (.sl k 0 n m)],none)
   | i+1=>match post[i]? with|some t=>some ([],[.slot d t.av],none)|none=>none
  | some (.tg k n ante post)=>bif Nat.blt i ante.length then (match ante[i]? with|some t=>some ([],[.slot d t.av],none)|none=>none)
   else bif Nat.beq i ante.length then some ([],[.slot d (.so k n)],none)
   else (match post[i-ante.length-1]? with|some t=>some ([],[.slot d t.av],none)|none=>none)
  | _=>none
 | .slice t x (some lo) (some hi) none=>match ev M x,ev M lo,ev M hi,E.P.underlying t with
  | some (.sl k o n m),some (.im (.int _ (.ofNat i))),some (.im (.int _ (.ofNat j))),some (.slice e)=>match dL E.P e with
   | some s=>some ([i≤j,j≤m,i<m],[.slot d (.sl k (o+i*s) (j-i) (m-i))],none)
   | none=>none
  | _,_,_,_=>none
 | .slice t x (some lo) none none=>match E.q.x.gen d,ev M x,ev M lo with
  | some r,some (.im v),some (.im u)=>some ([∀w:World,(Instr.sliceAt t v (some u) none none).run E.P w=.ok r w],[.slot d (.im r)],none)
  | _,_,_=>none
 | .slice t x none hi none=>match ev M x,E.P.underlying t with
  | some (.pt k o),some (.array n e)=>match dL E.P e with
   | some s=>match hi with
    | none=>some ([],[.slot d (.sl k o n n)],none)
    | some y=>match ev M y with
     | some (.im (.int kd (.ofNat h)))=>bif Nat.ble h n then some ([],[.slot d (.sl k o h n)],none)else none
     | _=>none
   | none=>none
  | some (.sl k o n m),some (.slice e)=>match hi with
   | some y=>(match ev M y,dL E.P e with
    | some (.im (.int kd (.ofNat h))),some s=>some ([h≤m],[.slot d (.sl k o h m)],none)
    | _,_=>none)
   | none=>none
  | some (.im (.slice p n m)),some (.slice e)=>match hi with
   | some y=>(match ev M y,dL E.P e with
    | some (.im (.int kd (.ofNat h))),some s=>some ([h≤m],[.slot d (.im (.slice p h m))],none)
    | _,_=>none)
   | none=>none
  | _,_=>none
 | .binOp op t x y _=>match E.q.x.gen d with
  | some r=>(match ev M x,ev M y with
   | some (.im v),some (.im u)=>some ([∀w:World,(do eqGuard op t x y v u; binOp op t v u:Sem Value).run E.P w=.ok r w],[.slot d (.im r)],none)
   | _,_=>none)
  | none=>match ev M x,ev M y with|some v,some u=>Wm E d op t v u|_,_=>none
 | .convert src dst x=>match E.q.x.gen d,ev M x with
  | some r,some (.im v)=>some ([∀w:World,(convert src dst v).run E.P w=.ok r w],[.slot d (.im r)],none)
  | _,_=>none
 | .makeFunc fn first captured=>match fn with
  | .func id=>bif Nat.beq first.size 0 then (match Kv M captured.toList with
   | some l=>(match LQ M l with|some vs=>some ([],[.slot d (.im (.func (.func id) #[] vs.toArray))],none)|none=>none)
   | none=>none)else none
  | _=>none
 | .makeSlice t l c=>match E.q.x.mks d,ev M l,ev M c with
  | some (n,L),some (.im v),some (.im u)=>some ([∃e,∀w:World,(Instr.makeSlice t v u).run E.P w=.ok (.slice (some ⟨w.heap.size,0,none⟩) n n) (w.alloc (.cells (aB L).toArray e))],[.slot d (.sl d 0 n n),.row d true L],none)
  | _,_,_=>none
 | .unOp op _ x=>match E.q.x.gen d with
  | some r=>(match ev M x with
   | some (.im v)=>some ([∀w:World,(Op.unary op v).run E.P w=.ok r w],[.slot d (.im r)],none)
   | _=>none)
  | none=>match op,ev M x with
  | .not,some (.im (.bool b))=>match E.num d with
   | some v=>some ([Value.bool (!b)=v],[.slot d (.im v)],none)
   | none=>some ([],[.slot d (.im (.bool (!b)))],none)
  | _,_=>none
 | .call c=>match c.callee with
  | .builtin .len=>match c.args.toList,c.argTypes.toList with
   | [x],[t]=>match ev M x,E.P.underlying t with
    | some (.sl k o n m),some (.slice e)=>some ([],[.slot d (.im (goInt n))],none)
    | some (.im (.slice p n m)),some (.slice e)=>some ([],[.slot d (.im (goInt n))],none)
    | some (.so k n),some (.slice e)=>some ([],[.slot d (.im (goInt n))],none)
    | _,_=>none
   | _,_=>none
  | .builtin .append=>match c.args.toList,c.argTypes.toList with
   | [x,y],[t,t']=>bif Nat.beq t t' then (match ev M x,ev M y,Wn E.P t with
    | some u,some v,some (e,sz,by8)=>(match E.q.x.mks d with
     | some (N',L')=>(match apV E M sz d v,apW M e sz u with
      | some (m,news,p1),some (n,l,kl,p2)=>some (p1++(p2++[∀x∈aB news,x.oneCell'=true,0<m,(n+m)*by8≤140737488355328,n+m≤4611686018427387904,N'=n+m,aB L'=aB (l++news)]),[.slot d (.so d N'),.row d true L',.app d e sz N'],kl)
      | _,_=>none)
     | none=>match Ye M sz v,apD M e sz u with
     | some (m,news),some (n,l,kl)=>bif news.all Mu&&(Nat.blt 0 m&&(Nat.ble ((n+m)*by8) 140737488355328&&Nat.ble (n+m) 4611686018427387904))then some ([],[.slot d (.so d (n+m)),.row d true (l++news),.app d e sz (n+m)],kl)else none
     | _,_=>none)
    | _,_,_=>none)else none
   | _,_=>none
  | .builtin .max=>match c.args.toList with
   | [x,y]=>match ev M x,ev M y with
    | some (.im (.int k a)),some (.im (.int k' b))=>match E.num d with
     | some v=>some ([Value.int k (if b>a then b else a)=v],[.slot d (.im v)],none)
     | none=>some ([],[.slot d (.im (.int k (if b>a then b else a)))],none)
    | _,_=>none
   | _=>none
  | .builtin .min=>match c.args.toList with
   | [x,y,z]=>match ev M x,ev M y,ev M z,E.num d with
    | some (.im (.int k a)),some (.im (.int k' b)),some (.im (.int k'' c)),some v=>some ([Value.int k (if c<(if b<a then b else a)then c else (if b<a then b else a))=v],[.slot d (.im v)],none)
    | _,_,_,_=>none
   | [x,y]=>match ev M x,ev M y,E.num d with
    | some (.im (.int k a)),some (.im (.int k' b)),some v=>some ([Value.int k (if b<a then b else a)=v],[.slot d (.im v)],none)
    | _,_,_=>none
   | _=>none
  | .builtin .complex=>match E.q.x.gen d,c.args.toList with
   | some r,[x,y]=>(match ev M x,ev M y with
    | some (.im v),some (.im u)=>some ([∀w:World,(Builtin.complex_ #[] 0 #[v,u]).run E.P w=.ok r w],[.slot d (.im r)],none)
    | _,_=>none)
   | _,_=>none
  | .builtin .real=>match E.q.x.gen d,c.args.toList with
   | some r,[x]=>(match ev M x with
    | some (.im v)=>some ([∀w:World,(Builtin.real_ #[] 0 #[v]).run E.P w=.ok r w],[.slot d (.im r)],none)
    | _=>none)
   | _,_=>none
  | .builtin .imag=>match E.q.x.gen d,c.args.toList with
   | some r,[x]=>(match ev M x with
    | some (.im v)=>some ([∀w:World,(Builtin.imag_ #[] 0 #[v]).run E.P w=.ok r w],[.slot d (.im r)],none)
    | _=>none)
   | _,_=>none
  | .value f=>match ev M f with
   | some (.im (.func (.func id) first captured))=>bif Nat.beq first.size 0 then
     (match Kv M c.args.toList with
     | some l=>match E.q.x.ky d with
      | some k=>(match cX M k,nW M k with
       | some (true,row),some b=>(match Bo M k b l,SW (E.q.x.idx d) b 0 captured.toList with
        | some (p1,cbs),(p2,cps)=>(match E.q.x.T6 id b row (cbs++cps)with
         | some (pre,r,row')=>bif !(Nat.beq k d)then some (p1++(p2++pre),[.slot d r.av,.row k true row'],some k)else none
         | none=>none)
        | _,_=>none)
       | _,_=>none)
      | none=>match wJ M l with
      | some cs=>match E.T d id (cs++captured.toList.map fun v=>.v (.im v))with
       | some (pre,r)=>some (pre,[.slot d r.av],none)
       | none=>match E.q.x.T2 id (cs++captured.toList.map fun v=>.v (.im v))with
        | some (pre,r)=>some (pre,[.slot d (bif r.post.isEmpty then .sl d 0 r.n r.m else .tf d r.n r.m r.post),.row d true r.l],none)
        | none=>match E.q.x.T3 id (cs++captured.toList.map fun v=>.v (.im v))with
         | some (pre,r)=>some (pre,.slot d (bif r.lone then .so d r.n else .tg d r.n r.ante r.post) :: .row d true r.l::(bif r.ap then [.app d r.e r.sz r.n]else []),none)
         | none=>match E.q.x.T4 id (cs++captured.toList.map fun v=>.v (.im v))with
          | some (pre,j,l')=>wrA M d pre (l[j]?) l'
          | none=>match E.q.x.T5 id (cs++captured.toList.map fun v=>.v (.im v))with
           | some (pre,j,r,l')=>wrP M d pre (l[j]?) r l'
           | none=>none
      | none=>none
     | none=>none)else none
   | _=>none
  | .invoke x name=>match ev M x with
   | some (.ic t l0)=>(match FG E.P t name with
    | some id=>(match Kv M c.args.toList with
     | some l=>match wJ M l with
      | some cs=>match E.T d id (.v (.fl l0)::cs)with
       | some (pre,r)=>some (pre,[.slot d r.av],none)
       | none=>none
      | none=>none
     | none=>none)
    | none=>none)
   | _=>none
  | _=>none
 | _=>none
def Fm (E:Env):Operand→Option (List At)
 | .tmp s=>E.q.x.st s
 | _=>none
def wU (E:Env) (M:List Fact):Op→Mz
 | .store t x y=>match ev M x,ev M y with
  | some (.pt k o),some v=>match BG v,cX M k,dL E.P t with
   | some p,some (true,l),some n=>bif Nat.beq n (cR p)&&p.all Mu then
     (match Fm E x with
     | some l'=>some ([put l o p=some l'],[.row k true l'],some k)
     | none=>match put l o p with|some l'=>some ([],[.row k true l'],some k)|none=>none)else none
   | _,_,_=>none
  | _,_=>none
 | _=>none
def yH (ops:Array Oper) (M:List Fact):Option (Nat×Bool)→Option Bool
 | none=>some true
 | some (g,b)=>match (ops[g]?).bind (·.dst)with
  | some s=>match nR M s with|some (.im (.bool c))=>some (c==b)|some (.im (.tuple _))=>some false|_=>none
  | none=>none
def Ml (E:Env) (ops:Array Oper) (M:List Fact) (o:Oper):Mz :=
 match yH ops M o.guard with
 | some true=>(match o.dst with
  | some d=>bif Nat.blt d E.nt then bM E M d o.op else none
  | none=>wU E M o.op)
 | some false=>(match o.dst with
  | some d=>bif Nat.blt d E.nt then some ([],[.slot d (.im undef)],none)else none
  | none=>none)
 | none=>none
theorem oN {ops:Array Oper} {M:List Fact} {base:Nat} {β:Nat→Bk} {a:Act} {w:World} (hM:∀φ∈M,φ.ok base β a w) {o:Oper} {t:Bool} (h:yH ops M o.guard=some t):Region.wanted o (yielded ops a.tmps)=t:=by
 unfold Region.wanted;cases hg:o.guard with
 | none=>rw[hg]at h; cases h; rfl
 | some gb =>
  obtain⟨g,b⟩:=gb;rw[hg]at h;unfold yH at h;simp only at h ⊢;unfold yielded;cases hs:(ops[g]?).bind (·.dst)with
  | none=>rw[hs]at h; cases h
  | some s =>
   rw[hs]at h;simp only at h;cases hl:nR M s with
   | none=>rw[hl]at h; cases h
   | some v =>
    rw[hl]at h;have:=hM _ (cP hl);simp only[Fact.ok]at this;cases v with
    | im u =>
     cases u<;>first|(cases h; done)|skip
     all_goals
      cases h;simp[this,AV.den]
    | _=>cases h
theorem gN {P:Program} {o:Oper} {a:Act} {w w':World} {K:Act→World→Prop} {Q:Exit→Act→World→Prop} {v:Value} (h:(execOp a.eval o).run P w=.ok (.value v) w') (hK:K (a.put o.dst v) w'):o.wp P a w K Q:=by
 unfold Oper.wp;rw[h];exact hK
theorem SV {base:Nat} {β:Nat→Bk} {a:Act} {w:World} {M:List Fact} (hM:∀φ∈M,φ.ok base β a w) {k b:Nat} (hat:(β k).1=b∧(β k).2.1=0) {v:AV} {p:List Prop} {c:CB} (h:Xw M k b v=some (p,c)) (hp:aQ p):c.ok w b (v.den β):=by
 cases v with
 | im v=>cases h; rfl
 | fl l=>cases h; rfl
 | sl k' o n m =>
  unfold Xw at h;simp only at h;cases hb:Nat.beq k' k<;>rw[hb]at h
  ·simp only[cond_false]at h;split at h
   ·rename_i ow l b' hr ha;split at h
    ·rename_i r hd;cases h;obtain⟨h1,h2,_⟩:=hM _ (aX hr);obtain⟨e1,e2⟩:=hM _ (dO ha);obtain⟨q,e,hq⟩:=uD hd;refine⟨(β k').1,(β k').2.1+o,rfl,h1,by rw[e1]; exact hp.1,fun j u hj => ?_⟩;have:=h2 (o+j) u (by rw[e,aM,List.getElem?_append_right (by rw[aP,hq]; omega),aP,hq]; simpa using hj)
     rwa [←Nat.add_assoc]at this
    ·cases h
   ·cases h
  ·cases Nat.eq_of_beq_eq_true hb;cases h;show Value.slice (some ⟨(β _).1,(β _).2.1+o,none⟩) n m=_;rw[hat.1,hat.2,Nat.zero_add]
 | pt k' o =>
  unfold Xw at h;simp only at h;cases hb:Nat.beq k' k<;>rw[hb]at h
  ·cases h
  ·cases Nat.eq_of_beq_eq_true hb;cases h;show Value.pointer (some ⟨(β _).1,(β _).2.1+o,none⟩)=_;rw[hat.1,hat.2,Nat.zero_add]
 | _=>cases h
theorem wI {base:Nat} {β:Nat→Bk} {a:Act} {w:World} {M:List Fact} (hM:∀φ∈M,φ.ok base β a w) {k b:Nat} (hat:(β k).1=b∧(β k).2.1=0):∀{l:List AV} {p:List Prop} {cs:List CB},Bo M k b l=some (p,cs)→aQ p→CBs w b cs (l.map (AV.den β))
 | [],p,cs,h,hp=>by cases h; trivial
 | v::r,p,cs,h,hp=>by
  unfold Bo at h;split at h
  ·rename_i p1 c1 p2 c2 h1 h2;cases h;rw[aS]at hp;exact⟨SV hM hat h1 hp.1,wI hM hat h2 hp.2⟩
  ·cases h
theorem mS {w:World} {j:Option Nat} {b:Nat}:∀{l:List Value} {i:Nat} {p:List Prop} {cs:List CB},SW j b i l=(p,cs)→aQ p→CBs w b cs l
 | [],i,p,cs,h,hp=>by cases h; trivial
 | v::r,i,p,cs,h,hp=>by
  unfold SW at h;cases hr:SW j b (i+1) r with
  | mk ps l =>
   rw[hr]at h;simp only at h;cases hb:gZ j i<;>rw[hb]at h
   ·cases h;exact⟨rfl,mS hr hp⟩
   ·simp only[cond_true]at h;split at h
    ·cases h;exact⟨by rw[hp.1]; rfl,mS hr hp.2⟩
    ·cases h;exact⟨rfl,mS hr hp⟩
theorem CBs.app {w:World} {b:Nat}:∀{cs ds:List CB} {vs us:List Value},CBs w b cs vs→CBs w b ds us→CBs w b (cs++ds) (vs++us)
 | [],ds,[],us,_,h=>h
 | [],ds,_::_,us,h,_=>h.elim
 | c::cs,ds,[],us,h,_=>by cases c<;>exact h.elim
 | c::cs,ds,v::vs,us,h,h2=>⟨h.1,CBs.app h.2 h2⟩
theorem iH {P:Program} {t n:Nat} (h:dL P t=some n):∃i,P.info? t=some i∧i.size=n:=by
 unfold dL at h;split at h
 ·rename_i i hi; cases h; exact⟨i,hi,rfl⟩
 ·cases h
theorem gP {P:Program} {t:Nat} (h:nS P t=true):∃d,P.underlying t=some d∧d.isRow=true:=by
 unfold nS at h;split at h
 ·rename_i d hd; exact⟨d,hd,h⟩
 ·cases h
theorem bC {P:Program} {t n:Nat} (h:dL P t=some n) (w:World):(sizeOf t).run P w=.ok n w:=by
 obtain⟨i,hi,rfl⟩:=iH h;simp[sizeOf,typeInfo,hi]
theorem pJ {w:World} {b o:Nat} {l:List At} {i n:Nat} {s:List At} (h:w.rangeAt b o (aB l)) (hs:sL l i n=some s):w.rangeAt b (o+i) (aB s):=by
 obtain⟨p,r,e,hp,ht⟩:=jP hs;intro j v hj;have hlt:j<(aB s).length:=(List.getElem?_eq_some_iff.1 hj).1;have:=h (i+j) v (by
  rw[e,aM,aM,List.getElem?_append_right (by rw[aP,hp]; omega),aP,hp,show i+j-i=j by omega,List.getElem?_append_left hlt];exact hj)
 rwa [←Nat.add_assoc]at this
theorem kE {P:Program} (w:World) {t:Nat} (hs:iY P t=true):(isAgg t).run P w=.ok false w:=by
 unfold iY at hs;unfold isAgg;split at hs
 ·cases hs
 ·cases hs
 ·rename_i d hu h1 h2;rw[Sem.run_bind,run_underlying h2 w];cases d<;>first|rfl|exact absurd rfl (hu _)|exact absurd rfl (h1 _ _)
 ·cases hs
theorem lU {P:Program} (w:World) (p:Addr) {t:Nat} {v:Value} (hs:iY P t=true) (hc:w.cell? p=some v):(loadVar t p).run P w=.ok v w:=by
 have hagg:(isAgg t).run P w=.ok false w:=by
  unfold iY at hs;unfold isAgg;split at hs
  ·cases hs
  ·cases hs
  ·rename_i d hu h1 h2;rw[Sem.run_bind,run_underlying h2 w];cases d<;>first|rfl|exact absurd rfl (hu _)|exact absurd rfl (h1 _ _)
  ·cases hs
 simp[loadVar,Sem.run_bind,hagg,hc]
theorem DZ {P:Program} (w:World) {t f:Nat} {name:String} (h:FG P t name=some f) (v:Value) (args:Array Value) (he:∀xs,(callFunc f xs).run P w=.ok (.enter f xs) w) :
  (callMethod (.iface t v) name args).run P w=.ok (.enter f (#[v]++args)) w:=by
 have hmeth:∀k,(method (k+1) t v name).run P w=.ok (f,v) w:=fun k=>by
  unfold FG at h;split at h
  ·rename_i i d hi hu;have hfin:(∀e,d ≠ .pointer e)→(match i.methods.find? (·.name==name)with
     | some m=>(match m.path.toList,m.func with
      | [],some (f,false)=>some f
      | _,_=>none)
     | none=>none)=some f→(method (k+1) t v name).run P w=.ok (f,v) w:=fun hd h=>by
    split at h
    ·rename_i m hm;split at h
     ·rename_i f' hp hf;cases h;unfold method;have hrec:∀o,(receiverAt t (.val v) false o).run P w=.ok v w:=fun o=>by
       unfold receiverAt;rw[Sem.run_bind,run_underlying hu w];cases d<;>first|exact absurd rfl (hd _)|rfl
      simp[typeInfo,hi,hm,hp,follow,hf,hrec]
     ·cases h
    ·cases h
   cases d<;>first|(cases h; done)|exact hfin (fun e q=>by cases q) h
  ·cases h
 unfold callMethod;have hk:∃k,P.types.size+Made.depth=k+1:=⟨P.types.size+99,rfl⟩
 obtain⟨k,hk⟩:=hk;simp[Sem.run_bind,run_program,hk,hmeth,he]
theorem zU {l:List At} {i n:Nat} {s:List At} (hs:sL l i n=some s):cR s=n:=by
 obtain⟨p,r,e,hp,ht⟩:=jP hs;exact ht
theorem tP {M:List Fact} {base:Nat} {β:Nat→Bk} {a:Act} {w:World} (hM:∀φ∈M,φ.ok base β a w) {ky:Option Nat} {v:Value} {p:List Prop} {u:AV} (h:IV M ky v=some (p,u)) (hp:aQ p):u.den β=v:=by
 unfold IV at h;split at h
 ·cases h; rfl
 ·rename_i k;split at h
  ·rename_i b n m b' hb;cases h;have:=hM _ (dO hb);simp only[Fact.ok]at this;obtain⟨rfl,_⟩:=hp;simp[AV.den,this]
  ·rename_i b b' hb;cases h;have:=hM _ (dO hb);simp only[Fact.ok]at this;obtain⟨rfl,_⟩:=hp;simp[AV.den,this]
  ·cases h
theorem pO {M:List Fact} {base:Nat} {β:Nat→Bk} {a:Act} {w:World} (hM:∀φ∈M,φ.ok base β a w):∀{l:List AV} {vs:List Value},LQ M l=some vs→l.map (AV.den β)=vs
 | [],vs,h=>by cases h; rfl
 | .im v::r,vs,h=>by
  unfold LQ at h;split at h
  ·rename_i l hl;cases h;show v::r.map (AV.den β)=_;rw[pO hM hl]
  ·cases h
 | .pt k o::r,vs,h=>by
  unfold LQ at h;split at h
  ·rename_i b l hb hl;cases h;have:=hM _ (dO hb);simp only[Fact.ok]at this;show (AV.pt k o).den β::r.map (AV.den β)=_;rw[pO hM hl];simp[AV.den,this]
  ·cases h
 | .fl _::_,vs,h=>by cases h
 | .sl _ _ _ _::_,vs,h=>by cases h
 | .tu _::_,vs,h=>by cases h
 | .ic _ _::_,vs,h=>by cases h
 | .tf _ _ _ _::_,vs,h=>by cases h
 | .so _ _::_,vs,h=>by cases h
 | .tg _ _ _ _::_,vs,h=>by cases h
theorem EV {base:Nat} {β:Nat→Bk} {a:Act} {w w':World} {d:Nat} {M:List Fact} (r:FR) (b:Nat) (h:d<a.tmps.size) (hB:base≤w.heap.size) (hb:Below w.heap.size w w')
  (h1:w.heap.size≤b) (h2:b<w'.heap.size) (h3:w'.rangeAt b 0 (aB r.l)) (h4:∀j,w'.frozen? ⟨b,j,none⟩=false) :
  PostB base β (UI β d b) a w (some d) M [.slot d (bif r.post.isEmpty then .sl d 0 r.n r.m else .tf d r.n r.m r.post),.row d true r.l] none (a.put (some d) (r.val b)) w' where
 defers:=rfl
 size:=dM _ _ _
 tmps s hs:=jJ _ _ _ _ hs
 beta k hk:=MZ _ _ _ _ hk
 heap:=hb.size
 mem p hp _:=⟨hb.cell hp,hb.frozen hp⟩
 shape:=Shape.below hb
 below _ h:=h.trans (hb.mono hB)
 ok φ hφ:=by
  rcases List.mem_cons.1 hφ with rfl|hφ
  ·show (a.put (some d) (r.val b)).tmps[d]?=_;rw[eW _ _ _ h];unfold FR.val;cases r.post.isEmpty<;>simp[AV.den,cO]
  ·cases List.mem_singleton.1 hφ;refine⟨by rw[cO]; exact h2,by rw[cO]; exact h3,fun _=>⟨by rw[cO]; exact Nat.le_trans hB h1,by rw[cO],fun j=>by rw[cO]; exact h4 j⟩,fun h=>by cases h⟩
 rows k l hk:=by
  rcases List.mem_cons.1 hk with hk|hk
  ·cases hk
  ·cases List.mem_singleton.1 hk;exact Or.inl ⟨by rw[cO]; exact h1,rfl⟩
 one k k' l l' hk hk':=by
  rcases List.mem_cons.1 hk with hk|hk
  ·cases hk
  ·rcases List.mem_cons.1 hk' with hk'|hk'
   ·cases hk'
   ·cases List.mem_singleton.1 hk; cases List.mem_singleton.1 hk'; rfl
 kills k hk:=by cases hk
theorem zV {v:Value} (h:tR v=true):v.oneCell'=true:=by cases v<;>first|rfl|cases h
theorem wC:∀{p:List At},p.all Mu=true→∀v∈aB p,v.oneCell'=true
 | [],_,v,hv=>by cases hv
 | x::r,h,v,hv=>by
  rw[List.all_cons,Bool.and_eq_true]at h
  rcases List.mem_append.1 hv with hv|hv
  ·cases x with
   | f x=>simp only[At.cells,w4,List.mem_cons,List.not_mem_nil,or_false]at hv; rcases hv with rfl|rfl|rfl|rfl<;>rfl
   | q x=>simp only[At.cells,w4,List.mem_cons,List.not_mem_nil,or_false]at hv; rcases hv with rfl|rfl|rfl|rfl<;>rfl
   | c u=>cases List.mem_singleton.1 hv; exact zV h.1
  ·exact wC h.2 v hv
theorem BA {base:Nat} {β:Nat→Bk} {a:Act} {w w':World} {d:Nat} {M:List Fact} (r:FS) (b cap:Nat) (h:d<a.tmps.size) (hB:base≤w.heap.size) (hb:Below w.heap.size w w')
  (h1:w.heap.size≤b) (h2:b<w'.heap.size) (h3:w'.rangeAt b 0 (aB r.l)) (h4:∀j,w'.frozen? ⟨b,j,none⟩=false) (h5:r.ap=true→AppAt w' b r.e r.sz r.n cap) :
  PostB base β (TW β d b cap) a w (some d) M (.slot d (bif r.lone then .so d r.n else .tg d r.n r.ante r.post) :: .row d true r.l::(bif r.ap then [.app d r.e r.sz r.n]else [])) none (a.put (some d) (r.val b cap)) w' where
 defers:=rfl
 size:=dM _ _ _
 tmps s hs:=jJ _ _ _ _ hs
 beta k hk:=MY _ _ _ _ _ hk
 heap:=hb.size
 mem p hp _:=⟨hb.cell hp,hb.frozen hp⟩
 shape:=Shape.below hb
 below _ h:=h.trans (hb.mono hB)
 ok φ hφ:=by
  rcases List.mem_cons.1 hφ with rfl|hφ
  ·show (a.put (some d) (r.val b cap)).tmps[d]?=_;rw[eW _ _ _ h];unfold FS.val;cases r.lone<;>simp[AV.den,cK]
  rcases List.mem_cons.1 hφ with rfl|hφ
  ·refine⟨by rw[cK]; exact h2,by rw[cK]; exact h3,fun _=>⟨by rw[cK]; exact Nat.le_trans hB h1,by rw[cK],fun j=>by rw[cK]; exact h4 j⟩,fun h=>by cases h⟩
  ·cases hap:r.ap<;>rw[hap]at hφ
   ·cases hφ
   ·cases List.mem_singleton.1 hφ;show AppAt w' (TW β d b cap d).1 _ _ _ (TW β d b cap d).2.2;rw[cK]; exact h5 hap
 rows k l hk:=by
  rcases List.mem_cons.1 hk with hk|hk
  ·cases hk
  rcases List.mem_cons.1 hk with hk|hk
  ·cases hk;exact Or.inl ⟨by rw[cK]; exact h1,rfl⟩
  ·cases hap:r.ap<;>rw[hap]at hk
   ·cases hk
   ·cases List.mem_singleton.1 hk
 one k k' l l' hk hk':=by
  have key:∀k l,Fact.row k true l∈(Fact.slot d (bif r.lone then AV.so d r.n else .tg d r.n r.ante r.post) :: .row d true r.l::(bif r.ap then [.app d r.e r.sz r.n]else []))→k=d:=fun k l hk=>by
   rcases List.mem_cons.1 hk with hk|hk
   ·cases hk
   rcases List.mem_cons.1 hk with hk|hk
   ·cases hk; rfl
   ·cases hap:r.ap<;>rw[hap]at hk
    ·cases hk
    ·cases List.mem_singleton.1 hk
  rw[key k l hk,key k' l' hk']
 onlyOwn k l h:=by
  simp only[List.mem_cons,reduceCtorEq,false_or,Fact.row.injEq,Bool.false_eq_true,false_and,and_false]at h;cases hq:r.ap<;>rw[hq]at h
  ·cases h
  ·simp at h
 kills k hk:=by cases hk
theorem uV (w:World) (p:Addr) (v:Value):Shape w (w.setCell p v):=fun b cur e hb=>by
 by_cases h:b=p.block
 ·subst h;refine⟨if p.spot.isSome then cur else cur.setIfInBounds p.off v,?_,?_⟩
  ·simp[World.setCell,Array.getElem?_modify,hb]
  ·split<;>simp
 ·exact⟨cur,(Below.heap_setCell w p v b h).trans hb,rfl⟩
theorem iJ (b:Nat):∀(vs:List Value) (o:Nat) (w:World),Shape w (w.setCells b o vs)
 | [],_,w=>Shape.refl w
 | v::r,o,w=>(uV w _ v).trans (iJ b r (o+1) _)
theorem Ic {w:World} {b e sz n cap:Nat} {xs:List Value} (h:AppAt w b e sz n cap) (hr:w.rangeAt b 0 xs) (hl:xs.length=n*sz):w.ownsRow 0 e sz (.slice (some ⟨b,0,none⟩) n cap) n xs:=by
 obtain⟨cur,h1,h2,h3,h4⟩:=h;refine⟨hl,.inr ⟨b,cap,cur,rfl,Nat.zero_le _,h1,h2,h3,h4,?_⟩⟩;have hle:n*sz≤cur.size:=by rw[h4]; exact Nat.mul_le_mul_right _ h2
 apply List.ext_getElem?;intro j
 by_cases hj:j<n*sz
 ·have h5:=hr j (xs[j]'(by omega)) (List.getElem?_eq_getElem _);rw[Nat.zero_add,cell_of_row w b j cur e (0,0) h1]at h5;rw[List.getElem?_take,if_pos hj,Array.getElem?_toList,h5,List.getElem?_eq_getElem]
 ·rw[List.getElem?_eq_none (by simp; omega),List.getElem?_eq_none (by omega)]
theorem xW {w:World} {base b e sz n cap:Nat} {xs:List Value} (h:w.ownsRow base e sz (.slice (some ⟨b,0,none⟩) n cap) n xs):AppAt w b e sz n cap∧base≤b∧b<w.heap.size∧w.rangeAt b 0 xs∧∀j,w.frozen? ⟨b,j,none⟩=false:=by
 have h0:=h;obtain⟨hl,⟨e0,_⟩|⟨g,c,cur,e1,hb,hg,h2,h3,h4,h5⟩⟩:=h
 ·cases e0
 ·cases e1;refine⟨⟨cur,hg,h2,h3,h4⟩,hb,(Array.getElem?_eq_some_iff.1 hg).1,fun j v hj => ?_,h0.frozenAt⟩;rw[Nat.zero_add,h0.cellAt j (by rw[←hl]; exact (List.getElem?_eq_some_iff.1 hj).1)];exact hj
theorem CW {P:Program} {t e sz by8:Nat} (h:Wn P t=some (e,sz,by8)):P.underlying t=some (.slice e)∧∃i z,P.info? e=some i∧i.zero=some z∧i.size=sz∧i.bytes=by8∧z.cells.size=sz∧0<sz:=by
 unfold Wn at h;split at h
 ·rename_i e' hu;split at h
  ·rename_i i hi;split at h
   ·rename_i z hz;cases hb:(Nat.beq z.cells.size i.size&&Nat.blt 0 i.size)<;>rw[hb]at h
    ·cases h
    ·cases h;rw[Bool.and_eq_true]at hb;exact⟨hu,i,z,hi,hz,rfl,rfl,Nat.eq_of_beq_eq_true hb.1,by simpa using hb.2⟩
   ·cases h
  ·cases h
 ·cases h
theorem oF {P:Program} (w:World) {t ty e sz by8:Nat} (hT:Wn P t=some (e,sz,by8)) {u:Value} {n:Nat} {xs:List Value}
  (hu:(u=.slice none 0 0∧n=0∧xs=[])∨∃b cap,u=.slice (some ⟨b,0,none⟩) n cap∧AppAt w b e sz n cap∧w.rangeAt b 0 xs∧xs.length=n*sz)
  {ad:Addr} {m c:Nat} {news:List Value} (hl:news.length=m*sz) (hnews:∀j v,news[j]?=some v→w.cell? (ad.add j)=some v) (h1:∀v∈news,v.oneCell'=true)
  (h0:0<m) (hbytes:(n+m)*by8≤140737488355328) (hmax:n+m≤maxLen) :
  ∃b cap w',(Builtin.append_ #[t,t] ty #[u,.slice (some ad) m c]).run P w=.ok (.slice (some ⟨b,0,none⟩) (n+m) cap) w'∧AppAt w' b e sz (n+m) cap∧b<w'.heap.size∧w'.rangeAt b 0 (xs++news)∧(∀j,w'.frozen? ⟨b,j,none⟩=false) ∧
   w.grownBy w' u.ownBlock∧Shape w w'∧(w.heap.size≤b∨∃cap0,u=.slice (some ⟨b,0,none⟩) n cap0):=by
 obtain⟨ht,i,z,hi,hz,hsize,hby,hzs,hsz⟩:=CW hT
 rcases hu with⟨rfl,rfl,rfl⟩|⟨b,cap,rfl,ha,hr,hx⟩
 ·obtain⟨v',w',hr,hown,hg,hne⟩:=run_append_own (P:=P) w w.heap.size t ty e i z sz by8 ht hi hz hsize hby hzs hsz _ 0 [] (World.ownsRow_nil w w.heap.size e sz) ad m c news hl hnews h1 hmax hbytes (Nat.le_refl _);have hv:∃b cap,v'=.slice (some ⟨b,0,none⟩) (0+m) cap:=by
   obtain⟨_,⟨rfl,h2⟩|⟨g,c',cur,rfl,_⟩⟩:=hown
   ·omega
   ·exact⟨g,c',rfl⟩
  obtain⟨b,cap,rfl⟩:=hv;obtain⟨a1,a2,a3,a4,a5⟩:=xW hown;exact⟨b,cap,w',hr,a1,a3,a4,a5,hg,fun q cur e' hq=>⟨cur,(hg.block q (Array.getElem?_eq_some_iff.1 hq).1 (by simp[Value.ownBlock])).trans hq,rfl⟩,Or.inl a2⟩
 ·have hown:=Ic ha hr hx
  by_cases hroom:n+m≤cap
  ·obtain⟨w',hr',hown',hg⟩:=run_append_fits (P:=P) w 0 t ty e i sz ht hi hsize b n cap xs hown ad m c news hl hnews h1 hroom;obtain⟨a1,a2,a3,a4,a5⟩:=xW hown';refine⟨b,cap,w',hr',a1,a3,a4,a5,hg,fun q cur e' hq => ?_,Or.inr ⟨cap,rfl⟩⟩
   by_cases hqb:q=b
   ·subst hqb;obtain⟨c0,k1,k2,k3,k4⟩:=ha;rw[k1]at hq;cases hq;obtain⟨c1,m1,m2,m3,m4⟩:=a1;exact⟨c1,m1,by rw[m4,k4]⟩
   ·exact⟨cur,(hg.block q (Array.getElem?_eq_some_iff.1 hq).1 (by simpa using hqb)).trans hq,rfl⟩
  ·obtain⟨v',w',hr',hown',hg,_⟩:=run_append_own (P:=P) w 0 t ty e i z sz by8 ht hi hz hsize hby hzs hsz _ n xs hown ad m c news hl hnews h1 hmax hbytes (Nat.zero_le _);have holds:∀j v,xs[j]?=some v→w.cell? ((⟨b,0,none⟩:Addr).add j)=some v:=hown.cells (g:=b) rfl
   have hr2:=run_append_grow (P:=P) w t ty e i z ht hi hz ⟨b,0,none⟩ n cap xs (by rw[hsize]; exact hx) holds ad m c news (by rw[hsize]; exact hl) hnews (by omega) (by simp only[maxLen]at hmax; omega) (growslice_fits (by omega) (by rw[hby]; exact hbytes));rw[hr']at hr2;injection hr2 with hv hw;subst hv;obtain⟨a1,a2,a3,a4,a5⟩:=xW hown';exact⟨_,_,w',hr',a1,a3,a4,a5,hg,by rw[hw]; exact Shape.trans (b:=w.drew) (fun q cur e' hq=>⟨cur,hq,rfl⟩) (Shape.alloc _ _),Or.inl (Nat.le_refl _)⟩
theorem BB {base:Nat} {β:Nat→Bk} {a:Act} {w w':World} {d:Nat} {M:List Fact} {kl:Option Nat} {L:List At} {e sz N b cap:Nat} {row:Option Nat} (h:d<a.tmps.size) (hB:base≤w.heap.size)
  (h1:AppAt w' b e sz N cap) (h2:b<w'.heap.size) (h3:w'.rangeAt b 0 (aB L)) (h4:∀j,w'.frozen? ⟨b,j,none⟩=false) (hg:w.grownBy w' row) (hs:Shape w w')
  (hk:(kl=none∧row=none∧w.heap.size≤b)∨∃k l0,kl=some k∧row=some (β k).1∧base≤(β k).1∧Fact.row k true l0∈M∧(w.heap.size≤b∨b=(β k).1)) :
  PostB base β (TW β d b cap) a w (some d) M [.slot d (.so d N),.row d true L,.app d e sz N] kl (a.put (some d) (.slice (some ⟨b,0,none⟩) N cap)) w':=by
 have hbb:base≤b:=by
  rcases hk with⟨_,_,h⟩|⟨k,l0,_,_,hb,_,h|h⟩<;>omega
 have hmem:∀q,q<w.heap.size→(∀k,kl=some k→q≠(β k).1)→w'.heap[q]?=w.heap[q]?:=fun q hq hne=>by
  refine hg.block q hq fun e => ?_
  rcases hk with⟨_,h,_⟩|⟨k,l0,hkl,h,_⟩
  ·rw[h]at e; cases e
  ·rw[h]at e;exact hne k hkl (by injection e)
 exact {
  defers:=rfl
  size:=dM _ _ _
  tmps:=fun s hs=>jJ _ _ _ _ hs
  beta:=fun k hk=>MY _ _ _ _ _ hk
  heap:=hg.size
  mem:=fun p hp hne=>⟨World.cell?_of_block (hmem p.block hp hne),World.frozen?_of_block (hmem p.block hp hne)⟩
  shape:=hs
  below:=fun w0 hw0=>hw0.grown hg hB fun k hk'=>by
   rcases hk with⟨_,h,_⟩|⟨k0,l0,_,h,hb,_⟩
   ·rw[h]at hk'; cases hk'
   ·rw[h]at hk'; cases hk'; exact hb
  ok:=fun φ hφ=>by
   simp only[List.mem_cons,List.not_mem_nil,or_false]at hφ
   rcases hφ with rfl|rfl|rfl
   ·show (a.put (some d) _).tmps[d]?=_;rw[eW _ _ _ h];simp[AV.den,cK]
   ·refine⟨by rw[cK]; exact h2,by rw[cK]; exact h3,fun _=>⟨by rw[cK]; exact hbb,by rw[cK],fun j=>by rw[cK]; exact h4 j⟩,fun h=>by cases h⟩
   ·show AppAt w' (TW β d b cap d).1 _ _ _ (TW β d b cap d).2.2;rw[cK]; exact h1
  rows:=fun k l hk'=>by
   simp only[List.mem_cons,List.not_mem_nil,or_false,reduceCtorEq,false_or]at hk';cases hk'
   rcases hk with⟨_,_,h⟩|⟨k0,l0,hkl,_,_,hm,h|h⟩
   ·exact Or.inl ⟨by rw[cK]; exact h,rfl⟩
   ·exact Or.inl ⟨by rw[cK]; exact h,rfl⟩
   ·exact Or.inr (Or.inr ⟨rfl,k0,l0,hkl,by rw[cK]; exact h,hm⟩)
  one:=fun k k' l l' hk hk'=>by
   simp only[List.mem_cons,List.not_mem_nil,or_false,reduceCtorEq,false_or]at hk hk';cases hk; cases hk'; rfl
  kills:=fun k hk'=>by
   rcases hk with⟨h,_⟩|⟨k0,l0,hkl,_,_,hm,_⟩
   ·rw[h]at hk'; cases hk'
   ·rw[hkl]at hk'; cases hk'; exact⟨l0,hm⟩ }
theorem CX {M:List Fact} {base:Nat} {β:Nat→Bk} {a:Act} {w:World} (hM:∀φ∈M,φ.ok base β a w) {sz:Nat} {v:AV} {m:Nat} {news:List At} (h:Ye M sz v=some (m,news)) :
  ∃b o c,v.den β=.slice (some ⟨b,o,none⟩) m c∧w.rangeAt b o (aB news)∧cR news=m*sz:=by
 unfold Ye at h;split at h
 ·rename_i k o n c;split at h
  ·rename_i ow l hr;split at h
   ·rename_i r hd;split at h
    ·rename_i t ht;cases h;obtain⟨h1,h2,_⟩:=hM _ (aX hr);obtain⟨p,e,hp⟩:=uD hd;obtain⟨q,e2,hq⟩:=oC _ _ _ ht;refine⟨_,_,_,rfl,fun j u hj => ?_,hq⟩;have hlt:=(List.getElem?_eq_some_iff.1 hj).1;have:=h2 (o+j) u (by rw[e,e2,aM,aM,List.getElem?_append_right (by rw[aP,hp]; omega),aP,hp,Nat.add_sub_cancel_left,List.getElem?_append_left hlt]; exact hj)
     rwa [←Nat.add_assoc]at this
    ·cases h
   ·cases h
  ·cases h
 ·rename_i k n;split at h
  ·rename_i ow l hr;split at h
   ·rename_i t ht;cases h;obtain⟨h1,h2,_⟩:=hM _ (aX hr);obtain⟨q,e2,hq⟩:=oC _ _ _ ht;refine⟨_,_,_,rfl,fun j u hj => ?_,hq⟩;have hlt:=(List.getElem?_eq_some_iff.1 hj).1;exact h2 j u (by rw[e2,aM,List.getElem?_append_left hlt]; exact hj)
   ·cases h
  ·cases h
 ·cases h
theorem TK {E:Env} {M:List Fact} {base:Nat} {β:Nat→Bk} {a:Act} {w:World} (hM:∀φ∈M,φ.ok base β a w) (hX:wL E.P E.q.x w) {sz d:Nat} {v:AV} {m:Nat} {news:List At} {ps:List Prop} (h:apV E M sz d v=some (m,news,ps)) (hp:aQ ps) :
  ∃b o c,v.den β=.slice (some ⟨b,o,none⟩) m c∧w.rangeAt b o (aB news)∧cR news=m*sz:=by
 unfold apV at h;split at h
 ·split at h
  ·rename_i k o n c;split at h
   ·rename_i ow l hr;cases h;obtain⟨h1,h2,_⟩:=hM _ (aX hr);obtain⟨p,s,e,hq,hs⟩:=jP hp.1;refine⟨_,_,_,rfl,fun j u hj => ?_,hs⟩;have hlt:=(List.getElem?_eq_some_iff.1 hj).1;have:=h2 (o+j) u (by rw[e,aM,aM,List.getElem?_append_right (by rw[aP,hq]; omega),aP,hq,Nat.add_sub_cancel_left,List.getElem?_append_left hlt]; exact hj)
    rwa [←Nat.add_assoc]at this
   ·cases h
  ·rename_i k n;split at h
   ·rename_i ow l hr;cases h;obtain⟨h1,h2,_⟩:=hM _ (aX hr);obtain⟨p,s,e,hq,hs⟩:=jP hp.1;refine⟨_,_,_,rfl,fun j u hj => ?_,hs⟩;have hlt:=(List.getElem?_eq_some_iff.1 hj).1;have:=h2 (0+j) u (by rw[e,aM,aM,List.getElem?_append_right (by rw[aP,hq]; omega),aP,hq,Nat.add_sub_cancel_left,List.getElem?_append_left hlt]; exact hj)
    rwa [Nat.zero_add]at this
   ·cases h
  ·rename_i b o n c;cases h;exact⟨b,o,c,rfl,hX.1 _ _ _ hp.1,hp.2.1⟩
  ·cases h
 ·split at h
  ·rename_i m' t hS;cases h;exact CX hM hS
  ·cases h
theorem TJ {M:List Fact} {base:Nat} {β:Nat→Bk} {a:Act} {w:World} (hM:∀φ∈M,φ.ok base β a w) {e sz:Nat} {u:AV} {n:Nat} {l:List At} {kl:Option Nat} {ps:List Prop} (h:apW M e sz u=some (n,l,kl,ps)) (hp:aQ ps) :
  ((u.den β=.slice none 0 0∧n=0∧aB l=[])∧kl=none)∨∃k l0,kl=some k∧Fact.row k true l0∈M∧l0=l∧base≤(β k).1∧u.den β=.slice (some ⟨(β k).1,0,none⟩) n (β k).2.2∧AppAt w (β k).1 e sz n (β k).2.2∧w.rangeAt (β k).1 0 (aB l)∧(aB l).length=n*sz:=by
 unfold apW at h;split at h
 ·cases h;exact Or.inl ⟨⟨rfl,rfl,rfl⟩,rfl⟩
 ·rename_i k n';split at h
  ·rename_i l' e' sz' n2 hr ha;cases hq:(Nat.beq e e'&&Nat.beq sz sz')<;>rw[hq]at h
   ·cases h
   ·cases h;simp only[Bool.and_eq_true]at hq;obtain⟨q1,q2⟩:=hq;cases Nat.eq_of_beq_eq_true q1;cases Nat.eq_of_beq_eq_true q2;obtain⟨p1,p2,_⟩:=hp;obtain⟨g1,g2,g3,_⟩:=hM _ (aX hr);obtain⟨g4,g5,g6⟩:=g3 rfl;have ga:=hM _ (fV ha);simp only[Fact.ok]at ga;rw[←p1]at ga;refine Or.inr ⟨k,l,rfl,aX hr,rfl,g4,?_,ga,by rw[←g5]; exact g2,by rw[aP]; exact p2⟩;simp only[AV.den,g5]
  ·cases h
 ·cases h
section
variable {E:Env} {base:Nat} {β:Nat→Bk} {a:Act} {w:World} {M:List Fact} {d:Nat} {o:Oper} {pre:List Prop} {out:List Fact} {kill:Option Nat} {K:Act→World→Prop} {Q:Exit→Act→World→Prop}
theorem aK (hd:d<a.tmps.size) (hdst:o.dst=some d) (v:AV) (hr:(execOp a.eval o).run E.P w=.ok (.value (v.den β)) w)
  (hK:∀β' a' w',PostB base β β' a w (some d) M [.slot d v] none a' w'→K a' w'):o.wp E.P a w K Q :=
 gN hr (by rw[hdst]; exact hK _ _ _ (vS v hd))
theorem xX (hB:base≤w.heap.size) (hd:d<a.tmps.size) (hdst:o.dst=some d) (v:AV) (l:List At) (t:TypeId)
  (hr:(execOp a.eval o).run E.P w=.ok (.value (v.den (UI β d w.heap.size))) (w.alloc (.cells (aB l).toArray t)))
  (hK:∀β' a' w',PostB base β β' a w (some d) M [.slot d v,.row d true l] none a' w'→K a' w'):o.wp E.P a w K Q :=
 gN hr (by rw[hdst]; exact hK _ _ _ (PO v l t hd hB))
variable (hC:(∀φ∈M,φ.ok base β a w)∧base≤w.heap.size∧d<a.tmps.size∧o.dst=some d)
variable (hK:∀β' a' w',PostB base β β' a w (some d) M out kill a' w'→K a' w')
include hC hK
theorem UX {x:Operand} (ho:o.op=.move x) (h:bM E M d (.move x)=some (pre,out,kill)):o.wp E.P a w K Q:=by
 obtain⟨hM,hB,hd,hdst⟩:=hC;simp only[bM]at h;split at h
 ·rename_i v hv;cases h;exact aK hd hdst v (by simp[execOp,ho,aI hM hv]) hK
 ·cases h
theorem KN {x:Operand} (ho:o.op=.assign x) (h:bM E M d (.assign x)=some (pre,out,kill)):o.wp E.P a w K Q:=by
 obtain⟨hM,hB,hd,hdst⟩:=hC;simp only[bM]at h;split at h
 ·rename_i v hv;cases h;exact aK hd hdst v (by simp[execOp,ho,aI hM hv]) hK
 ·cases h
theorem UW {c x y:Operand} (ho:o.op=.pick c x y) (h:bM E M d (.pick c x y)=some (pre,out,kill)):o.wp E.P a w K Q:=by
 obtain⟨hM,hB,hd,hdst⟩:=hC;simp only[bM]at h;split at h
 ·rename_i b v u hc hx hy;cases h;refine aK hd hdst _ ?_ hK;have hc':a.eval c=.bool b:=aI hM hc;cases b
  ·simp[execOp,ho,hc',aI hM hy,asBool]
  ·simp[execOp,ho,hc',aI hM hx,asBool]
 ·cases h
theorem NZ {t:TypeId} (ho:o.op=.alloc t) (h:bM E M d (.alloc t)=some (pre,out,kill)):o.wp E.P a w K Q:=by
 obtain⟨hM,hB,hd,hdst⟩:=hC;simp only[bM]at h;split at h
 ·rename_i l hl;cases h;unfold Cq at hl;split at hl
  ·rename_i i hi;split at hl
   ·rename_i z hz;cases hl;refine xX hB hd hdst _ _ t ?_ hK;simp[execOp,ho,Instr.alloc,zeroValue,typeInfo,hi,hz,newVar,newRow,AV.den,cO,IL]
   ·cases hl
  ·cases hl
 ·cases h
theorem Fl {t:TypeId} {x:Operand} (ho:o.op=.box t x) (h:bM E M d (.box t x)=some (pre,out,kill)):o.wp E.P a w K Q:=by
 obtain⟨hM,hB,hd,hdst⟩:=hC;simp only[bM]at h;split at h
 ·rename_i v hv;split at h
  ·rename_i p hp;cases h;refine xX hB hd hdst _ _ t ?_ hK;have hc:=nP hp β;have he:=aI hM hv;rw[show AV.den (UI β d w.heap.size) (.pt d 0)=.pointer (some ⟨w.heap.size,0,none⟩) by simp[AV.den,cO]];simp[execOp,ho,Instr.box,newVar,newRow,he,hc]
  ·cases h
 ·cases h
theorem NX {t:TypeId} {ps:Array (Nat×Operand)} (ho:o.op=.build t ps) (h:bM E M d (.build t ps)=some (pre,out,kill)):o.wp E.P a w K Q:=by
 obtain⟨hM,hB,hd,hdst⟩:=hC;simp only[bM]at h;split at h
 ·rename_i qs hq;split at h
  ·rename_i l hl;cases h;refine aK hd hdst _ ?_ hK;have:=CP hM hq hl;have hb:=run_build w t (ps.map fun (i,x)=>(i,a.eval x)) _ (by rw[Array.toList_map]; exact this);simp[execOp,ho,hb,AV.den,IM]
  ·cases h
 ·cases h
theorem uU {t:TypeId} {n:Nat} {ps:Array (Nat×Operand)} (ho:o.op=.buildSlice t n ps) (h:bM E M d (.buildSlice t n ps)=some (pre,out,kill)):o.wp E.P a w K Q:=by
 obtain⟨hM,hB,hd,hdst⟩:=hC;simp only[bM]at h;split at h
 ·rename_i qs hq;split at h
  ·rename_i l hl;cases h;unfold JX at hl;split at hl
   ·rename_i e hu;split at hl
    ·rename_i ie hie;split at hl
     ·rename_i z hz;cases hc:(Nat.ble (n*ie.size) 4096 && !(Nat.beq (n*ie.size) 0))<;>rw[hc]at hl
      ·cases hl
      ·simp only[cond_true]at hl;simp only[Bool.and_eq_true,Bool.not_eq_true',Nat.ble_eq]at hc;have hpos:¬n*ie.size=0:=fun e=>by rw[e]at hc; exact absurd hc.2 (by decide)
       have hs:=kM hM _ ps.toList qs _ _ hq hl;rw[rX,Array.toArray_toList]at hs;refine xX hB hd hdst _ _ e ?_ hK;have hb:=run_buildSlice (P:=E.P) w t e n (ps.map fun (i,x)=>(i,a.eval x)) _ ie z hu hie hz (by omega) hpos (by rw[Array.toList_map]; exact hs);simp[execOp,ho,hb,AV.den,cO]
     ·cases hl
    ·cases hl
   ·cases hl
  ·cases h
 ·cases h
theorem UY {t:TypeId} {x:Operand} (hX:wL E.P E.q.x w) (ho:o.op=.load t x) (h:bM E M d (.load t x)=some (pre,out,kill)) (hp:aQ pre):o.wp E.P a w K Q:=by
 obtain⟨hM,hB,hd,hdst⟩:=hC;simp only[bM]at h;split at h
 ·rename_i k i hx;split at h
  ·rename_i ow l n hr hs ht;have hg':∃s,sL l i n=some s∧out=[.slot d (.fl s)]∧kill=none:=by
    split at h
    ·rename_i s hs';cases h;exact⟨s,hp.1,rfl,rfl⟩
    ·split at h
     ·rename_i s hg; cases h; exact⟨s,hg,rfl,rfl⟩
     ·cases h
   obtain⟨s,hg,rfl,rfl⟩:=hg'
   ·obtain⟨i',hi,hn⟩:=iH hs;obtain⟨ds,hu,hd'⟩:=gP ht;obtain⟨h1,h2,_⟩:=hM _ (aX hr);refine aK hd hdst _ ?_ hK;have:=run_loadAt_mid (P:=E.P) w _ _ t (aB s) ds (pJ h2 hg) hu hd' (by rw[hi]; simp[aP,zU hg,hn]);have hx':a.eval x=.pointer (some ⟨(β k).1,(β k).2.1+i,none⟩):=aI hM hx;simp[execOp,ho,hx',this,AV.den]
  ·rename_i ow l hr hs ht;cases hsc:iY E.P t<;>rw[hsc]at h
   ·cases h
   ·simp only[cond_true]at h;have hg':∃v u,cellAt l i=some v∧u.den β=v∧out=[.slot d u]∧kill=none:=by
     split at h
     ·rename_i s hs';split at h
      ·rename_i p u hk;cases h;exact⟨s,u,hp.1,tP hM hk hp.2,rfl,rfl⟩
      ·cases h
     ·split at h
      ·rename_i s hg;split at h
       ·rename_i p u hk;cases h;exact⟨s,u,hg,tP hM hk hp,rfl,rfl⟩
       ·cases h
      ·cases h
    obtain⟨v,u,hg,hu,rfl,rfl⟩:=hg';obtain⟨h1,h2,_⟩:=hM _ (aX hr);refine aK hd hdst _ ?_ hK;have hc:w.cell? ⟨(β k).1,(β k).2.1+i,none⟩=some v:=h2 i v (gQ hg);have hx':a.eval x=.pointer (some ⟨(β k).1,(β k).2.1+i,none⟩):=aI hM hx;have hl:=lU w ⟨(β k).1,(β k).2.1+i,none⟩ hsc hc;simp[execOp,ho,Instr.loadAt,Instr.sureAddr,hx',hl,hu]
  ·cases h
 ·rename_i b i hx;have hx':a.eval x=.pointer (some ⟨b,i,none⟩):=aI hM hx;split at h
  ·rename_i n hs ht;split at h
   ·rename_i s hl;cases h;obtain⟨i',hi,hn⟩:=iH hs;obtain⟨ds,hu,hd'⟩:=gP ht;have h2:=hX.1 _ _ _ hp.1;refine aK hd hdst _ ?_ hK;have:=run_loadAt_mid (P:=E.P) w _ _ t (aB s) ds h2 hu hd' (by rw[hi]; simp[aP,hp.2.1,hn]);simp[execOp,ho,hx',this,AV.den]
   ·cases h
  ·rename_i hs ht;cases hsc:iY E.P t<;>rw[hsc]at h
   ·cases h
   ·simp only[cond_true]at h;split at h
    ·rename_i v hv;cases h;have h2:=hX.1 _ _ _ hp.1;refine aK hd hdst _ ?_ hK;have hc:w.cell? ⟨b,i,none⟩=some v:=h2 0 v rfl;have hl:=lU w ⟨b,i,none⟩ hsc hc;simp[execOp,ho,Instr.loadAt,Instr.sureAddr,hx',hl,AV.den]
    ·cases h
  ·cases h
 ·cases h
theorem NV {t:TypeId} {x:Operand} (ho:o.op=.makeInterface t x) (h:bM E M d (.makeInterface t x)=some (pre,out,kill)):o.wp E.P a w K Q:=by
 obtain⟨hM,hB,hd,hdst⟩:=hC;simp only[bM]at h;split at h
 ·rename_i l hx;cases hi:RC E.P t<;>rw[hi]at h
  ·cases h;have hx':a.eval x=.agg (aB l).toArray:=aI hM hx;refine aK hd hdst _ ?_ hK;have hm:(Instr.makeInterface t (.agg (aB l).toArray)).run E.P w=.ok (.iface t (.agg (aB l).toArray)) w:=by
    unfold RC at hi;unfold Instr.makeInterface;split at hi
    ·cases hi
    ·rename_i dd hne hu;rw[Sem.run_bind,run_underlying hu w];cases dd<;>first|rfl|exact absurd rfl (hne _)
    ·cases hi
   simp[execOp,ho,hx',hm,AV.den]
  ·cases h
 ·cases h
theorem zQ {x:Operand} (ho:o.op=.nilCheck x) (h:bM E M d (.nilCheck x)=some (pre,out,kill)):o.wp E.P a w K Q:=by
 obtain⟨hM,hB,hd,hdst⟩:=hC;simp only[bM]at h;split at h
 ·rename_i k j hx;cases h;have hx':a.eval x=.pointer (some ⟨(β k).1,(β k).2.1+j,none⟩):=aI hM hx;exact aK hd hdst _ (by simp[execOp,ho,hx',AV.den]) hK
 ·rename_i p hx;cases h;have hx':a.eval x=.pointer (some p):=aI hM hx;exact aK hd hdst _ (by simp[execOp,ho,hx',AV.den]) hK
 ·cases h
theorem DU {src dst:TypeId} {x:Operand} (ho:o.op=.convert src dst x) (h:bM E M d (.convert src dst x)=some (pre,out,kill)) (hp:aQ pre):o.wp E.P a w K Q:=by
 obtain⟨hM,hB,hd,hdst⟩:=hC;simp only[bM]at h;split at h
 ·rename_i r v hr hx;cases h;have hx':a.eval x=v:=aI hM hx;have h1:=hp.1 w;refine aK hd hdst (.im r) ?_ hK;simp[execOp,ho,hx',h1,AV.den]
 ·cases h
theorem zR {fn:Fn} {first captured:Array Operand} (ho:o.op=.makeFunc fn first captured) (h:bM E M d (.makeFunc fn first captured)=some (pre,out,kill)):o.wp E.P a w K Q:=by
 obtain⟨hM,hB,hd,hdst⟩:=hC;simp only[bM]at h;split at h
 ·rename_i id;cases hb:Nat.beq first.size 0<;>rw[hb]at h
  ·cases h
  ·simp only[cond_true]at h;have z1:first = #[]:=Array.size_eq_zero_iff.1 (Nat.eq_of_beq_eq_true hb);subst z1;split at h
   ·rename_i l hl;split at h
    ·rename_i vs hv;cases h;have hargs:=oO hM hl;rw[pO hM hv]at hargs;have ea:captured.map a.eval=vs.toArray:=by rw[←Array.toArray_toList (xs:=captured.map a.eval),Array.toList_map,hargs]
     refine aK hd hdst (.im (.func (.func id) #[] vs.toArray)) ?_ hK;simp[execOp,ho,Instr.makeFunc,ea,AV.den]
    ·cases h
   ·cases h
 ·cases h
theorem wV {t:TypeId} {x y:Operand} (ho:o.op=.makeSlice t x y) (h:bM E M d (.makeSlice t x y)=some (pre,out,kill)) (hp:aQ pre):o.wp E.P a w K Q:=by
 obtain⟨hM,hB,hd,hdst⟩:=hC;simp only[bM]at h;split at h
 ·rename_i n L v u hm hx hy;cases h;have hx':a.eval x=v:=aI hM hx;have hy':a.eval y=u:=aI hM hy;obtain⟨e,he⟩:=hp.1;have h1:=he w;refine xX hB hd hdst _ _ e ?_ hK;simp[execOp,ho,hx',hy',h1,AV.den,cO]
 ·cases h
theorem NW {s:TypeId} {x:Operand} {i:Nat} (ho:o.op=.fieldAddr s x i) (h:bM E M d (.fieldAddr s x i)=some (pre,out,kill)):o.wp E.P a w K Q:=by
 obtain⟨hM,hB,hd,hdst⟩:=hC;simp only[bM]at h;split at h
 ·rename_i k j fs hx hu;split at h
  ·rename_i f hf;split at h
   ·rename_i n hn;cases hb:Nat.beq n 0<;>rw[hb]at h
    ·cases h;refine aK hd hdst _ ?_ hK;have hx':a.eval x=.pointer (some ⟨(β k).1,(β k).2.1+j,none⟩):=aI hM hx;have hz:n≠0:=fun e=>by rw[e]at hb; cases hb
     simp[execOp,ho,hx',Instr.fieldAt,run_underlying hu,hf,Instr.sureAddr,fieldPlace,bC hn,hz,AV.den,Addr.add_mid,Nat.add_assoc]
    ·cases h
   ·cases h
  ·cases h
 ·rename_i b j fs hx hu;split at h
  ·rename_i f hf;split at h
   ·rename_i n hn;cases hb:Nat.beq n 0<;>rw[hb]at h
    ·cases h;refine aK hd hdst _ ?_ hK;have hx':a.eval x=.pointer (some ⟨b,j,none⟩):=aI hM hx;have hz:n≠0:=fun e=>by rw[e]at hb; cases hb
     simp[execOp,ho,hx',Instr.fieldAt,run_underlying hu,hf,Instr.sureAddr,fieldPlace,bC hn,hz,AV.den,Addr.add_mid,Nat.add_assoc]
    ·cases h
   ·cases h
  ·cases h
 ·cases h
theorem wW {t:TypeId} {x y:Operand} (ho:o.op=.indexAddr t x y) (h:bM E M d (.indexAddr t x y)=some (pre,out,kill)) (hp:aQ pre):o.wp E.P a w K Q:=by
 obtain⟨hM,hB,hd,hdst⟩:=hC;simp only[bM]at h;split at h
 ·rename_i i hidx;split at h
  ·rename_i k j kd q n e hx hy hu;have hx':a.eval x=.pointer (some ⟨(β k).1,(β k).2.1+j,none⟩):=aI hM hx;have hy':a.eval y=.int kd q:=aI hM hy;split at h
   ·rename_i s hs;cases h;obtain⟨rfl,hi,_⟩:=hp;refine aK hd hdst _ ?_ hK;simp[execOp,ho,hx',hy',Instr.indexAt,asIntOf,run_underlying hu,Instr.sureAddr,bC hs,hi,AV.den,Addr.add_mid,Nat.add_assoc]
   ·cases h
  ·rename_i k j n m kd q e hx hy hu;have hx':a.eval x=.slice (some ⟨(β k).1,(β k).2.1+j,none⟩) n m:=aI hM hx;have hy':a.eval y=.int kd q:=aI hM hy;split at h
   ·rename_i s hs;cases h;obtain⟨rfl,hi,_⟩:=hp;refine aK hd hdst _ ?_ hK;simp[execOp,ho,hx',hy',Instr.indexAt,asIntOf,run_underlying hu,Instr.sureAddr,bC hs,hi,AV.den,Addr.add_mid,Nat.add_assoc]
   ·cases h
  ·rename_i b j kd q n e hx hy hu;have hx':a.eval x=.pointer (some ⟨b,j,none⟩):=aI hM hx;have hy':a.eval y=.int kd q:=aI hM hy;split at h
   ·rename_i s hs;cases h;obtain⟨rfl,hi,_⟩:=hp;refine aK hd hdst _ ?_ hK;simp[execOp,ho,hx',hy',Instr.indexAt,asIntOf,run_underlying hu,Instr.sureAddr,bC hs,hi,AV.den,Addr.add_mid,Nat.add_assoc]
   ·cases h
  ·rename_i b j n m kd q e hx hy hu;have hx':a.eval x=.slice (some ⟨b,j,none⟩) n m:=aI hM hx;have hy':a.eval y=.int kd q:=aI hM hy;split at h
   ·rename_i s hs;cases h;obtain⟨rfl,hi,_⟩:=hp;refine aK hd hdst _ ?_ hK;simp[execOp,ho,hx',hy',Instr.indexAt,asIntOf,run_underlying hu,Instr.sureAddr,bC hs,hi,AV.den,Addr.add_mid,Nat.add_assoc]
   ·cases h
  ·cases h
 split at h
 ·rename_i k j kd i hx hy;have hx':a.eval x=.pointer (some ⟨(β k).1,(β k).2.1+j,none⟩):=aI hM hx;have hy':a.eval y=.int kd (Int.ofNat i):=aI hM hy;split at h
  ·rename_i n e hu;split at h
   ·rename_i s hs;cases hb:Nat.blt i n<;>rw[hb]at h
    ·cases h
    ·cases h;have hi:i<n:=by simpa using hb
     refine aK hd hdst _ ?_ hK;simp[execOp,ho,hx',hy',Instr.indexAt,asIntOf,run_underlying hu,Instr.sureAddr,bC hs,hi,AV.den,Addr.add_mid,Nat.add_assoc]
   ·cases h
  ·cases h
 ·rename_i k j n m kd i hx hy;have hx':a.eval x=.slice (some ⟨(β k).1,(β k).2.1+j,none⟩) n m:=aI hM hx;have hy':a.eval y=.int kd (Int.ofNat i):=aI hM hy;split at h
  ·rename_i e hu;split at h
   ·rename_i s hs;cases hb:Nat.blt i n<;>rw[hb]at h
    ·cases h
    ·cases h;have hi:i<n:=by simpa using hb
     refine aK hd hdst _ ?_ hK;simp[execOp,ho,hx',hy',Instr.indexAt,asIntOf,run_underlying hu,Instr.sureAddr,bC hs,hi,AV.den,Addr.add_mid,Nat.add_assoc]
   ·cases h
  ·cases h
 ·rename_i k n kd i hx hy;have hx':a.eval x=.slice (some ⟨(β k).1,(β k).2.1,none⟩) n (β k).2.2:=aI hM hx;have hy':a.eval y=.int kd (Int.ofNat i):=aI hM hy;split at h
  ·rename_i e hu;split at h
   ·rename_i s hs;cases hb:Nat.blt i n<;>rw[hb]at h
    ·cases h
    ·cases h;have hi:i<n:=by simpa using hb
     refine aK hd hdst _ ?_ hK;simp[execOp,ho,hx',hy',Instr.indexAt,asIntOf,run_underlying hu,Instr.sureAddr,bC hs,hi,AV.den,Addr.add_mid,Nat.add_assoc]
   ·cases h
  ·cases h
 ·cases h
theorem NU {t:TypeId} {x y:Operand} (ho:o.op=.index t x y) (h:bM E M d (.index t x y)=some (pre,out,kill)) (hp:aQ pre):o.wp E.P a w K Q:=by
 obtain⟨hM,hB,hd,hdst⟩:=hC;simp only[bM]at h;split at h
 ·rename_i v hg;split at h
  ·rename_i l kd i n e hx hy hu;have hx':a.eval x=.agg (aB l).toArray:=aI hM hx;have hy':a.eval y=.int kd (Int.ofNat i):=aI hM hy;split at h
   ·rename_i hs;cases hb:iY E.P e<;>rw[hb]at h
    ·cases h
    ·cases h;obtain⟨hi,hv,_⟩:=hp;have hagg:(isAgg e).run E.P w=.ok false w:=kE w hb;have hc:=gQ hv;refine aK hd hdst (.im v) ?_ hK;simp[execOp,ho,hx',hy',Instr.index,asIntOf,run_underlying hu,bC hs,hi,part,hagg,AV.den,hc]
   ·cases h
  ·cases h
 split at h
 ·rename_i l kd i hx hy;have hx':a.eval x=.agg (aB l).toArray:=aI hM hx;have hy':a.eval y=.int kd (Int.ofNat i):=aI hM hy;split at h
  ·rename_i n e hu;split at h
   ·rename_i s hs ht;cases hb:Nat.blt i n<;>rw[hb]at h
    ·cases h
    ·simp only[cond_true]at h;split at h
     ·rename_i r hr;cases h;have hi:i<n:=by simpa using hb
      obtain⟨ds,hu2,hd'⟩:=gP ht;have hagg:(isAgg e).run E.P w=.ok true w:=by
       unfold isAgg;rw[Sem.run_bind,run_underlying hu2 w];cases ds<;>simp_all
      obtain⟨p,r',e1,hp,hr'⟩:=jP hr;have hex:List.take s (List.drop (i*s) (aB l))=aB r:=by
       rw[e1,aM,aM];rw[List.drop_append,aP,hp];simp only[Nat.sub_self,List.drop_zero];rw[List.drop_of_length_le (by rw[aP,hp]; omega),List.nil_append,List.take_append_of_le_length (by rw[aP,hr']; omega),List.take_of_length_le (by rw[aP,hr']; omega)]
      refine aK hd hdst _ ?_ hK;simp[execOp,ho,hx',hy',Instr.index,asIntOf,run_underlying hu,bC hs,hi,part,hagg,AV.den,hex]
     ·cases h
   ·rename_i hs ht;cases hb:(iY E.P e&&Nat.blt i n)<;>rw[hb]at h
    ·cases h
    ·simp only[cond_true]at h;rw[Bool.and_eq_true]at hb;split at h
     ·rename_i v hv;cases h;have hi:i<n:=by simpa using hb.2
      have hagg:(isAgg e).run E.P w=.ok false w:=kE w hb.1;have hc:=gQ hv;refine aK hd hdst _ ?_ hK;simp[execOp,ho,hx',hy',Instr.index,asIntOf,run_underlying hu,bC hs,hi,part,hagg,AV.den,hc]
     ·cases h
   ·cases h
  ·cases h
 ·cases h
theorem DS {t:TypeId} {x:Operand} {i:Nat} (ho:o.op=.field t x i) (h:bM E M d (.field t x i)=some (pre,out,kill)):o.wp E.P a w K Q:=by
 obtain⟨hM,hB,hd,hdst⟩:=hC;simp only[bM]at h;split at h
 ·rename_i l fs hx hu;have hx':a.eval x=.agg (aB l).toArray:=aI hM hx;split at h
  ·rename_i f hf;split at h
   ·rename_i s hs ht;split at h
    ·rename_i r hr;cases h;obtain⟨ds,hu2,hd'⟩:=gP ht;have hagg:(isAgg f.type).run E.P w=.ok true w:=by
      unfold isAgg;rw[Sem.run_bind,run_underlying hu2 w];cases ds<;>simp_all
     obtain⟨p,r',e1,hp,hr'⟩:=jP hr;have hex:List.take s (List.drop f.offset (aB l))=aB r:=by
      rw[e1,aM,aM];rw[List.drop_append,aP,hp];simp only[Nat.sub_self,List.drop_zero];rw[List.drop_of_length_le (by rw[aP,hp]; omega),List.nil_append,List.take_append_of_le_length (by rw[aP,hr']; omega),List.take_of_length_le (by rw[aP,hr']; omega)]
     refine aK hd hdst _ ?_ hK;simp[execOp,ho,hx',Instr.field,asAgg,run_underlying hu,hf,bC hs,part,hagg,AV.den,hex]
    ·cases h
   ·rename_i hs ht;cases hb:iY E.P f.type<;>rw[hb]at h
    ·cases h
    ·simp only[cond_true]at h;split at h
     ·rename_i v hv;cases h;have hagg:(isAgg f.type).run E.P w=.ok false w:=kE w hb;have hc:=gQ hv;refine aK hd hdst _ ?_ hK;simp[execOp,ho,hx',Instr.field,asAgg,run_underlying hu,hf,bC hs,part,hagg,AV.den,hc]
     ·cases h
   ·cases h
  ·cases h
 ·cases h
theorem DT {x:Operand} {i:Nat} (ho:o.op=.extract x i) (h:bM E M d (.extract x i)=some (pre,out,kill)):o.wp E.P a w K Q:=by
 obtain⟨hM,hB,hd,hdst⟩:=hC;simp only[bM]at h;split at h
 ·rename_i l hx;split at h
  ·rename_i t ht;cases h;have hx':a.eval x=.tuple (l.map TV.den).toArray:=aI hM hx;refine aK hd hdst _ ?_ hK;simp[execOp,ho,hx',Instr.extract,ht,TV.av_den]
  ·cases h
 ·rename_i k n m post hx;have hx':a.eval x=.tuple (.slice (some ⟨(β k).1,(β k).2.1,none⟩) n m::post.map TV.den).toArray:=aI hM hx;cases i with
  | zero =>
   cases h;refine aK hd hdst _ ?_ hK;simp[execOp,ho,hx',Instr.extract,AV.den]
  | succ i =>
   simp only at h;split at h
   ·rename_i t ht;cases h;refine aK hd hdst _ ?_ hK;simp[execOp,ho,hx',Instr.extract,ht,TV.av_den]
   ·cases h
 ·rename_i k n ante post hx;have hx':a.eval x=.tuple (ante.map TV.den ++ .slice (some ⟨(β k).1,(β k).2.1,none⟩) n (β k).2.2::post.map TV.den).toArray:=aI hM hx;cases hb:Nat.blt i ante.length<;>rw[hb]at h
  ·simp only[cond_false]at h;have hge:ante.length≤i:=by
    rcases Nat.lt_or_ge i ante.length with q|q
    ·have:Nat.blt i ante.length=true:=by simpa using q
     rw[hb]at this; cases this
    ·exact q
   cases hb2:Nat.beq i ante.length<;>rw[hb2]at h
   ·simp only[cond_false]at h;split at h
    ·rename_i t ht;cases h;have hne:i≠ante.length:=fun e=>by rw[e]at hb2; simp at hb2
     refine aK hd hdst _ ?_ hK;have hget:(ante.map TV.den ++ .slice (some ⟨(β k).1,(β k).2.1,none⟩) n (β k).2.2::post.map TV.den)[i]?=some t.den:=by
      rw[List.getElem?_append_right (by rw[List.length_map]; exact hge),List.length_map];obtain⟨m,hm⟩:∃m,i-ante.length=m+1:=⟨i-ante.length-1,by omega⟩
      rw[hm]at ht ⊢;rw[List.getElem?_cons_succ,List.getElem?_map];rw[Nat.add_sub_cancel]at ht;rw[ht]; rfl
     simp only[execOp,ho,hx',Instr.extract];simp only[List.getElem?_toArray,hget];simp[TV.av_den]
    ·cases h
   ·cases h;have he:=Nat.eq_of_beq_eq_true hb2;refine aK hd hdst _ ?_ hK;have hget:(ante.map TV.den ++ .slice (some ⟨(β k).1,(β k).2.1,none⟩) n (β k).2.2::post.map TV.den)[i]?=some (.slice (some ⟨(β k).1,(β k).2.1,none⟩) n (β k).2.2):=by
     rw[List.getElem?_append_right (by rw[List.length_map]; exact hge),List.length_map,he,Nat.sub_self];rfl
    simp only[execOp,ho,hx',Instr.extract];simp only[List.getElem?_toArray,hget];simp[AV.den]
  ·simp only[cond_true]at h;split at h
   ·rename_i t ht;cases h;have hlt:i<ante.length:=by simpa using hb
    refine aK hd hdst _ ?_ hK;have hget:(ante.map TV.den ++ .slice (some ⟨(β k).1,(β k).2.1,none⟩) n (β k).2.2::post.map TV.den)[i]?=some t.den:=by
     rw[List.getElem?_append_left (by rw[List.length_map]; exact hlt),List.getElem?_map,ht]; rfl
    simp only[execOp,ho,hx',Instr.extract];simp only[List.getElem?_toArray,hget];simp[TV.av_den]
   ·cases h
 ·cases h
theorem NT {t:TypeId} {x:Operand} {lo hi mx:Option Operand} (ho:o.op=.slice t x lo hi mx) (h:bM E M d (.slice t x lo hi mx)=some (pre,out,kill)) (hp:aQ pre):o.wp E.P a w K Q:=by
 obtain⟨hM,hB,hd,hdst⟩:=hC;cases lo with
 | some y =>
  cases hi with
  | none =>
   cases mx with
   | some _=>simp only[bM]at h; cases h
   | none =>
   simp only[bM]at h;split at h
   ·rename_i r v u hr hx hlo;cases h;have hx':a.eval x=v:=aI hM hx;have hl':a.eval y=u:=aI hM hlo;refine aK hd hdst (.im r) ?_ hK;simp[execOp,ho,hx',hl',hp.1 w,AV.den]
   ·cases h
  | some y2 =>
  cases mx with
  | some _=>simp only[bM]at h; cases h
  | none =>
  simp only[bM]at h;split at h
  ·rename_i k q n m kd1 i kd2 j e hx hlo hhi hu;split at h
   ·rename_i sz hs;cases h;obtain⟨g1,g2,g3,_⟩:=hp;have hx':a.eval x=.slice (some ⟨(β k).1,(β k).2.1+q,none⟩) n m:=aI hM hx;have hl':a.eval y=.int kd1 (Int.ofNat i):=aI hM hlo;have hh':a.eval y2=.int kd2 (Int.ofNat j):=aI hM hhi;have hmi:¬m=i:=by omega
    refine aK hd hdst _ ?_ hK;simp[execOp,ho,hx',hl',hh',Instr.sliceAt,Instr.slice,run_underlying hu,Instr.sliceBounds,Instr.sliceBound,asIntOf,bC hs,AV.den,Addr.add_mid,Nat.add_assoc,g1,g2,hmi]
   ·cases h
  ·cases h
 | none =>
 cases mx with
 | some _=>simp only[bM]at h; cases h
 | none =>
 simp only[bM]at h;split at h
 ·rename_i k j n e hx hu;have hx':a.eval x=.pointer (some ⟨(β k).1,(β k).2.1+j,none⟩):=aI hM hx;split at h
  ·rename_i s hs;cases hi with
   | none =>
    cases h;refine aK hd hdst _ ?_ hK
    by_cases hn:n=0<;>simp[execOp,ho,hx',Instr.sliceAt,Instr.sureAddr,run_underlying hu,Instr.sliceBounds,bC hs,AV.den,Addr.add_mid,hn]
   | some y =>
    simp only at h;split at h
    ·rename_i kd i hy;have hy':a.eval y=.int kd (Int.ofNat i):=aI hM hy;cases hb:Nat.ble i n<;>rw[hb]at h
     ·cases h
     ·cases h;have hi:i≤n:=by simpa using hb
      refine aK hd hdst _ ?_ hK
      by_cases hn:n=0
      ·subst hn;have hi0:i=0:=Nat.le_zero.1 hi;subst hi0;simp[execOp,ho,hx',hy',Instr.sliceAt,Instr.sureAddr,run_underlying hu,Instr.sliceBounds,Instr.sliceBound,asIntOf,bC hs,AV.den,Addr.add_mid,hi]
      ·simp[execOp,ho,hx',hy',Instr.sliceAt,Instr.sureAddr,run_underlying hu,Instr.sliceBounds,Instr.sliceBound,asIntOf,bC hs,AV.den,Addr.add_mid,hn,hi]
    ·cases h
  ·cases h
 ·rename_i k q n m e hx hu;have hx':a.eval x=.slice (some ⟨(β k).1,(β k).2.1+q,none⟩) n m:=aI hM hx;cases hi with
  | none=>cases h
  | some y =>
   simp only at h;split at h
   ·rename_i kd i s hy hs;cases h;have g1:=hp.1;have hy':a.eval y=.int kd (Int.ofNat i):=aI hM hy;refine aK hd hdst _ ?_ hK
    by_cases hn:m=0
    ·subst hn;cases Nat.le_zero.1 g1;simp[execOp,ho,hx',hy',Instr.sliceAt,Instr.slice,run_underlying hu,Instr.sliceBounds,Instr.sliceBound,asIntOf,bC hs,AV.den,Addr.add_mid]
    ·simp[execOp,ho,hx',hy',Instr.sliceAt,Instr.slice,run_underlying hu,Instr.sliceBounds,Instr.sliceBound,asIntOf,bC hs,AV.den,Addr.add_mid,g1,hn]
   ·cases h
 ·rename_i p n m e hx hu;have hx':a.eval x=.slice p n m:=aI hM hx;cases hi with
  | none=>cases h
  | some y =>
   simp only at h;split at h
   ·rename_i kd i s hy hs;cases h;have g1:=hp.1;have hy':a.eval y=.int kd (Int.ofNat i):=aI hM hy;refine aK hd hdst _ ?_ hK;have hadd:p.map (fun x:Addr=>x.add 0)=p:=by
     cases p with
     | none=>rfl
     | some q=>show some (q.add 0)=some q; unfold Addr.add; rw[if_pos rfl]
    by_cases hn:m=0
    ·subst hn;cases Nat.le_zero.1 g1;simp[execOp,ho,hx',hy',Instr.sliceAt,Instr.slice,run_underlying hu,Instr.sliceBounds,Instr.sliceBound,asIntOf,bC hs,AV.den]
    ·simp[execOp,ho,hx',hy',Instr.sliceAt,Instr.slice,run_underlying hu,Instr.sliceBounds,Instr.sliceBound,asIntOf,bC hs,AV.den,g1,hn,hadd]
   ·cases h
 ·cases h
theorem UV {op:UnOp} {t:TypeId} {x:Operand} (ho:o.op=.unOp op t x) (h:bM E M d (.unOp op t x)=some (pre,out,kill)) (hp:aQ pre):o.wp E.P a w K Q:=by
 obtain⟨hM,hB,hd,hdst⟩:=hC;simp only[bM]at h;split at h
 ·rename_i r hr;split at h
  ·rename_i v hx;cases h;have hx':a.eval x=v:=aI hM hx;have h1:=hp.1 w;refine aK hd hdst (.im r) ?_ hK;simp[execOp,ho,hx',h1,AV.den]
  ·cases h
 split at h
 ·rename_i b hb;have hb':a.eval x=.bool b:=aI hM hb;have hrun:(execOp a.eval o).run E.P w=.ok (.value (.bool (!b))) w:=by simp[execOp,ho,hb',Op.unary]
  split at h
  ·rename_i v hv;cases h;exact aK hd hdst (.im v) (by rw[show AV.den β (.im v)=v from rfl,←hp.1]; exact hrun) hK
  ·cases h;exact aK hd hdst (.im (.bool (!b))) hrun hK
 ·cases h
theorem NY {op:BinOp} {t t2:TypeId} {x y:Operand} (hq:uR E.P E.q) (ho:o.op=.binOp op t x y t2) (h:bM E M d (.binOp op t x y t2)=some (pre,out,kill)) (hp:aQ pre):o.wp E.P a w K Q:=by
 obtain⟨hM,hB,hd,hdst⟩:=hC;replace hq:uR E.P E.q:=hq;simp only[bM]at h;split at h
 ·rename_i r hr;split at h
  ·rename_i v u hx hy;cases h;have hx':a.eval x=v:=aI hM hx;have hy':a.eval y=u:=aI hM hy;have h1:=hp.1 w;refine aK hd hdst (.im r) ?_ hK;simp only[execOp,ho,hx',hy',AV.den];rw[Sem.run_bind,h1];rfl
  ·cases h
 split at h
 ·rename_i v u hx hy;have hx':=aI hM hx;have hy':=aI hM hy;unfold Wm at h;split at h
  ·rename_i k p k' q;split at h
   ·rename_i hk;subst hk;have hfin:∀r,aD op k p q=some r→(execOp a.eval o).run E.P w=.ok (.value r) w:=fun r hr=>by
     simp only[AV.den]at hx' hy';cases op<;>simp only[aD]at hr<;>first|(cases hr; done)|skip
     all_goals first
      | (cases hr; simp[execOp,ho,hx',hy',eqGuard,binOp,Op.intArith,Op.intCmp]; done)
      | (by_cases hz:q=0; (rw[if_pos hz]at hr; cases hr); rw[if_neg hz]at hr; cases hr; simp[execOp,ho,hx',hy',eqGuard,binOp,Op.intDiv,hz])
    split at h
    ·rename_i r hr;cases h;exact aK hd hdst (.im r) (hfin r hp.1) hK
    ·split at h
     ·rename_i r hr;cases h;exact aK hd hdst (.im r) (hfin r hr) hK
     ·cases h
   ·cases h
  ·rename_i p q;simp only[AV.den]at hx' hy';split at h
   ·rename_i hu;cases op<;>simp only at h<;>first|(cases h; done)|skip
    all_goals cases h
    ·refine aK hd hdst (.im (.bool (p==q))) ?_ hK;simp[execOp,ho,hx',hy',eqGuard,binOp,run_equal_bool w t p q hu,AV.den]
    ·refine aK hd hdst (.im (.bool (p != q))) ?_ hK;simp[execOp,ho,hx',hy',eqGuard,binOp,run_equal_bool w t p q hu,AV.den];cases p<;>cases q<;>rfl
   ·cases h
  ·rename_i l m;simp only[AV.den]at hx' hy';cases hN:(E.q.fit t l&&E.q.fit t m)<;>rw[hN]at h
   ·cases h
   ·simp only[cond_true]at h;rw[Bool.and_eq_true]at hN;cases hh:E.hint d<;>rw[hh]at h<;>simp only[cond_true,cond_false]at h
    ·split at h
     ·rename_i n hn;cases hb:(Nat.beq (cR l) n&&Nat.beq (cR m) n)<;>rw[hb]at h
      ·cases h
      ·simp only[cond_true]at h;rw[Bool.and_eq_true]at hb;obtain⟨hg,he⟩:=hq.2 t n hn;have he':=he l m w (Nat.eq_of_beq_eq_true hb.1) (Nat.eq_of_beq_eq_true hb.2) hN.1 hN.2;cases op<;>simp only at h<;>first|(cases h; done)|skip
       all_goals cases h
       all_goals refine aK hd hdst _ ?_ hK
       all_goals simp only[execOp,ho,hx',hy',Sem.run_bind,run_eqGuard_agg w _ t x y _ _ hg,run_eql_struct,run_neq_struct,Result.andThen_ok,Sem.run_pure,AV.den]
       ·rw[he' hp.1]; rfl
       ·rw[he' hp.1]; rfl
     ·cases h
    ·split at h
     ·rename_i n hn;cases hb:(Nat.beq (cR l) n&&Nat.beq (cR m) n)<;>rw[hb]at h
      ·cases h
      ·simp only[cond_true]at h;rw[Bool.and_eq_true]at hb;obtain⟨hg,he⟩:=hq.1 t n hn;have he':=he l w (Nat.eq_of_beq_eq_true hb.1) hN.1;cases op<;>simp only at h<;>first|(cases h; done)|skip
       all_goals cases h
       all_goals refine aK hd hdst _ ?_ hK
       all_goals have hp1:=hp.1
       all_goals simp only[execOp,ho,hx',hy',←hp1,Sem.run_bind,run_eqGuard_agg w _ t x y _ _ hg,run_eql_struct,run_neq_struct,Result.andThen_ok,Sem.run_pure,AV.den]
       ·rw[he']; rfl
       ·rw[he']; rfl
     ·cases h
  ·cases h
 ·cases h
theorem UZ {c:Call} (hT:∀d,CY E.P (E.T d) w) (hX:wL E.P E.q.x w) (ho:o.op=.call c) (h:bM E M d (.call c)=some (pre,out,kill)) (hp:aQ pre):o.wp E.P a w K Q:=by
 obtain⟨hM,hB,hd,hdst⟩:=hC;simp only[bM]at h;split at h
 ·rename_i hc;split at h
  ·rename_i x t hx ht;split at h
   ·rename_i k j n m e hx1 hu;cases h;have hx':a.eval x=.slice (some ⟨(β k).1,(β k).2.1+j,none⟩) n m:=aI hM hx1;have e1:c.args = #[x]:=by rw[←Array.toArray_toList (xs:=c.args),hx]
    have e2:c.argTypes = #[t]:=by rw[←Array.toArray_toList (xs:=c.argTypes),ht]
    refine aK hd hdst _ ?_ hK;simp[execOp,ho,resolve,hc,e1,e2,invoke,builtin,hx',Builtin.len_,run_underlying hu,AV.den]
   ·rename_i p n m e hx1 hu;cases h;have hx':a.eval x=.slice p n m:=aI hM hx1;have e1:c.args = #[x]:=by rw[←Array.toArray_toList (xs:=c.args),hx]
    have e2:c.argTypes = #[t]:=by rw[←Array.toArray_toList (xs:=c.argTypes),ht]
    refine aK hd hdst _ ?_ hK;simp[execOp,ho,resolve,hc,e1,e2,invoke,builtin,hx',Builtin.len_,run_underlying hu,AV.den]
   ·rename_i k n e hx1 hu;cases h;have hx':a.eval x=.slice (some ⟨(β k).1,(β k).2.1,none⟩) n (β k).2.2:=aI hM hx1;have e1:c.args = #[x]:=by rw[←Array.toArray_toList (xs:=c.args),hx]
    have e2:c.argTypes = #[t]:=by rw[←Array.toArray_toList (xs:=c.argTypes),ht]
    refine aK hd hdst _ ?_ hK;simp[execOp,ho,resolve,hc,e1,e2,invoke,builtin,hx',Builtin.len_,run_underlying hu,AV.den]
   ·cases h
  ·cases h
 ·rename_i hc;split at h
  ·rename_i x y t t' hx ht;cases htt:Nat.beq t t'<;>rw[htt]at h
   ·cases h
   ·simp only[cond_true]at h;cases Nat.eq_of_beq_eq_true htt;split at h
    ·rename_i u v e sz by8 hx1 hy1 hT1;split at h
     ·rename_i N' L' hmk;split at h
      ·rename_i m news p1 n l kl p2 hS hD;cases h;rw[aS,aS]at hp;obtain⟨hp1,hp2,hone',h0,hby,hmx,hN',hL'⟩:=hp;have hL':=hL'.1;subst hN';have hx':=aI hM hx1;have hy':=aI hM hy1;obtain⟨bs,os',cs',hden,hrng,hsz⟩:=TK hM hX hS hp1;rw[hden]at hy';have e1:c.args = #[x,y]:=by rw[←Array.toArray_toList (xs:=c.args),hx]
       have e2:c.argTypes = #[t,t]:=by rw[←Array.toArray_toList (xs:=c.argTypes),ht]
       have hnews:∀j v,(aB news)[j]?=some v→w.cell? ((⟨bs,os',none⟩:Addr).add j)=some v:=fun j v hj=>by
        rw[Addr.add_mid]; exact hrng j v hj
       have hcase:=TJ hM hD hp2;have hu:(a.eval x=.slice none 0 0∧n=0∧aB l=[])∨∃b cap,a.eval x=.slice (some ⟨b,0,none⟩) n cap∧AppAt w b e sz n cap∧w.rangeAt b 0 (aB l)∧(aB l).length=n*sz:=by
        rcases hcase with⟨⟨h,h'⟩,_⟩|⟨k,l0,_,_,_,_,h1,h2,h3,h4⟩
        ·exact Or.inl ⟨hx'.trans h,h'⟩
        ·exact Or.inr ⟨_,_,hx'.trans h1,h2,h3,h4⟩
       obtain⟨b,cap,w',hr,a1,a2,a3,a4,a5,a6,a7⟩:=oF (P:=E.P) w (ty:=o.type) hT1 hu (by rw[aP]; exact hsz) hnews hone' h0 hby (by simp only[maxLen]; omega) (c:=cs');have hrun:(execOp a.eval o).run E.P w=.ok (.value (.slice (some ⟨b,0,none⟩) (n+m) cap)) w':=by
        unfold execOp;simp only[ho,resolve,hc,e1,e2,invoke,builtin,Sem.run_bind,Sem.run_pure,Result.andThen_ok,List.map_toArray,List.map_cons,List.map_nil,hy',hr]
       refine gN hrun ?_;rw[hdst];refine hK _ _ _ (BB (L:=L') (row:=(a.eval x).ownBlock) hd hB a1 a2 (by rw[hL',aM]; exact a3) a4 a5 a6 ?_)
       rcases hcase with⟨⟨h1,_⟩,h2⟩|⟨k,l0,hk,hm,rfl,hb,h1,_⟩
       ·refine Or.inl ⟨h2,by rw[hx',h1]; rfl,?_⟩
        rcases a7 with h|⟨c0,h⟩
        ·exact h
        ·rw[hx',h1]at h; cases h
       ·refine Or.inr ⟨k,_,hk,by rw[hx',h1]; rfl,hb,hm,?_⟩
        rcases a7 with h|⟨c0,h⟩
        ·exact Or.inl h
        ·rw[hx',h1]at h; cases h; exact Or.inr rfl
      ·cases h
     ·split at h
      ·rename_i m news n l kl hS hD;cases hb:(news.all Mu&&(Nat.blt 0 m&&(Nat.ble ((n+m)*by8) 140737488355328&&Nat.ble (n+m) 4611686018427387904)))<;>rw[hb]at h
       ·cases h
       ·cases h;simp only[Bool.and_eq_true,Nat.blt_eq,Nat.ble_eq]at hb;obtain⟨hone,h0,hby,hmx⟩:=hb;have hx':=aI hM hx1;have hy':=aI hM hy1;obtain⟨bs,os',cs',hden,hrng,hsz⟩:=CX hM hS;rw[hden]at hy';have e1:c.args = #[x,y]:=by rw[←Array.toArray_toList (xs:=c.args),hx]
        have e2:c.argTypes = #[t,t]:=by rw[←Array.toArray_toList (xs:=c.argTypes),ht]
        have hone':∀v∈aB news,v.oneCell'=true:=wC hone
        have hnews:∀j v,(aB news)[j]?=some v→w.cell? ((⟨bs,os',none⟩:Addr).add j)=some v:=fun j v hj=>by
         rw[Addr.add_mid]; exact hrng j v hj
        have hcase:((a.eval x=.slice none 0 0∧n=0∧aB l=[])∧kill=none)∨∃k l0,kill=some k∧u=.so k n∧Fact.row k true l0∈M∧l0=l∧base≤(β k).1∧a.eval x=.slice (some ⟨(β k).1,0,none⟩) n (β k).2.2∧AppAt w (β k).1 e sz n (β k).2.2∧w.rangeAt (β k).1 0 (aB l)∧(aB l).length=n*sz:=by
         unfold apD at hD;split at hD
         ·cases hD;exact Or.inl ⟨⟨hx',rfl,rfl⟩,rfl⟩
         ·rename_i k n';split at hD
          ·rename_i l' e' sz' n2 hr ha;cases hq:(Nat.beq e e'&&(Nat.beq sz sz'&&(Nat.beq n' n2&&Nat.beq (cR l') (n'*sz))))<;>rw[hq]at hD
           ·cases hD
           ·cases hD;simp only[Bool.and_eq_true]at hq;obtain⟨q1,q2,q3,q4⟩:=hq;cases Nat.eq_of_beq_eq_true q1;cases Nat.eq_of_beq_eq_true q2;cases Nat.eq_of_beq_eq_true q3;obtain⟨g1,g2,g3,_⟩:=hM _ (aX hr);obtain⟨g4,g5,g6⟩:=g3 rfl;have ga:=hM _ (fV ha);simp only[Fact.ok]at ga;refine Or.inr ⟨k,l,rfl,rfl,aX hr,rfl,g4,?_,ga,by rw[←g5]; exact g2,by rw[aP]; exact Nat.eq_of_beq_eq_true q4⟩;rw[hx'];simp only[AV.den,g5]
          ·cases hD
         ·cases hD
        have hu:(a.eval x=.slice none 0 0∧n=0∧aB l=[])∨∃b cap,a.eval x=.slice (some ⟨b,0,none⟩) n cap∧AppAt w b e sz n cap∧w.rangeAt b 0 (aB l)∧(aB l).length=n*sz:=by
         rcases hcase with⟨h,_⟩|⟨k,l0,_,_,_,_,_,h1,h2,h3,h4⟩
         ·exact Or.inl h
         ·exact Or.inr ⟨_,_,h1,h2,h3,h4⟩
        obtain⟨b,cap,w',hr,a1,a2,a3,a4,a5,a6,a7⟩:=oF (P:=E.P) w (ty:=o.type) hT1 hu (by rw[aP]; exact hsz) hnews hone' h0 hby (by simp only[maxLen]; omega) (c:=cs');have hrun:(execOp a.eval o).run E.P w=.ok (.value (.slice (some ⟨b,0,none⟩) (n+m) cap)) w':=by
         unfold execOp;simp only[ho,resolve,hc,e1,e2,invoke,builtin,Sem.run_bind,Sem.run_pure,Result.andThen_ok,List.map_toArray,List.map_cons,List.map_nil,hy',hr]
        refine gN hrun ?_;rw[hdst];refine hK _ _ _ (BB (L:=l++news) (row:=(a.eval x).ownBlock) hd hB a1 a2 (by rw[aM]; exact a3) a4 a5 a6 ?_)
        rcases hcase with⟨⟨h1,_⟩,h2⟩|⟨k,l0,hk,_,hm,rfl,hb,h1,_⟩
        ·refine Or.inl ⟨h2,by rw[h1]; rfl,?_⟩
         rcases a7 with h|⟨c0,h⟩
         ·exact h
         ·rw[h1]at h; cases h
        ·refine Or.inr ⟨k,_,hk,by rw[h1]; rfl,hb,hm,?_⟩
         rcases a7 with h|⟨c0,h⟩
         ·exact Or.inl h
         ·rw[h1]at h; cases h; exact Or.inr rfl
      ·cases h
    ·cases h
  ·cases h
 ·rename_i hc;split at h
  ·rename_i x y hx;split at h
   ·rename_i k p k' q hx1 hy1;have hx':a.eval x=.int k p:=aI hM hx1;have hy':a.eval y=.int k' q:=aI hM hy1;have e1:c.args = #[x,y]:=by rw[←Array.toArray_toList (xs:=c.args),hx]
    have hrun:(execOp a.eval o).run E.P w=.ok (.value (.int k (if q>p then q else p))) w:=by
     simp[execOp,ho,resolve,hc,e1,invoke,builtin,hx',hy',Builtin.max_,Builtin.max2]
    split at h
    ·rename_i v hv;cases h;exact aK hd hdst (.im v) (by rw[show AV.den β (.im v)=v from rfl,←hp.1]; exact hrun) hK
    ·cases h;exact aK hd hdst (.im (.int k (if q>p then q else p))) hrun hK
   ·cases h
  ·cases h
 ·rename_i hc;split at h
  ·rename_i x y z hx;split at h
   ·rename_i k p k' q k'' r v hx1 hy1 hz1 hv;cases h;have hx':a.eval x=.int k p:=aI hM hx1;have hy':a.eval y=.int k' q:=aI hM hy1;have hz':a.eval z=.int k'' r:=aI hM hz1;have e1:c.args = #[x,y,z]:=by rw[←Array.toArray_toList (xs:=c.args),hx]
    have hrun:(execOp a.eval o).run E.P w=.ok (.value (.int k (if r<(if q<p then q else p)then r else (if q<p then q else p)))) w:=by
     simp[execOp,ho,resolve,hc,e1,invoke,builtin,hx',hy',hz',Builtin.min_,Builtin.min2]
    exact aK hd hdst (.im v) (by rw[show AV.den β (.im v)=v from rfl,←hp.1]; exact hrun) hK
   ·cases h
  ·rename_i x y hx;split at h
   ·rename_i k p k' q v hx1 hy1 hv;cases h;have hx':a.eval x=.int k p:=aI hM hx1;have hy':a.eval y=.int k' q:=aI hM hy1;have e1:c.args = #[x,y]:=by rw[←Array.toArray_toList (xs:=c.args),hx]
    have hrun:(execOp a.eval o).run E.P w=.ok (.value (.int k (if q<p then q else p))) w:=by
     simp[execOp,ho,resolve,hc,e1,invoke,builtin,hx',hy',Builtin.min_,Builtin.min2]
    exact aK hd hdst (.im v) (by rw[show AV.den β (.im v)=v from rfl,←hp.1]; exact hrun) hK
   ·cases h
  ·cases h
 ·rename_i hc;split at h
  ·rename_i r x y hr hx;split at h
   ·rename_i v u hx1 hy1;cases h;have hx':a.eval x=v:=aI hM hx1;have hy':a.eval y=u:=aI hM hy1;have e1:c.args = #[x,y]:=by rw[←Array.toArray_toList (xs:=c.args),hx]
    have hp1:∀ts t,(Builtin.complex_ ts t #[v,u]).run E.P w=.ok r w:=fun _ _=>hp.1 w
    refine aK hd hdst (.im r) ?_ hK;simp[execOp,ho,resolve,hc,e1,invoke,builtin,hx',hy',hp1,AV.den]
   ·cases h
  ·cases h
 ·rename_i hc;split at h
  ·rename_i r x hr hx;split at h
   ·rename_i v hx1;cases h;have hx':a.eval x=v:=aI hM hx1;have e1:c.args = #[x]:=by rw[←Array.toArray_toList (xs:=c.args),hx]
    have hp1:∀ts t,(Builtin.real_ ts t #[v]).run E.P w=.ok r w:=fun _ _=>hp.1 w
    refine aK hd hdst (.im r) ?_ hK;simp[execOp,ho,resolve,hc,e1,invoke,builtin,hx',hp1,AV.den]
   ·cases h
  ·cases h
 ·rename_i hc;split at h
  ·rename_i r x hr hx;split at h
   ·rename_i v hx1;cases h;have hx':a.eval x=v:=aI hM hx1;have e1:c.args = #[x]:=by rw[←Array.toArray_toList (xs:=c.args),hx]
    have hp1:∀ts t,(Builtin.imag_ ts t #[v]).run E.P w=.ok r w:=fun _ _=>hp.1 w
    refine aK hd hdst (.im r) ?_ hK;simp[execOp,ho,resolve,hc,e1,invoke,builtin,hx',hp1,AV.den]
   ·cases h
  ·cases h
 ·rename_i f hc;split at h
  ·rename_i id first captured hf;cases hb:Nat.beq first.size 0<;>rw[hb]at h
   ·cases h
   ·simp only[cond_true]at h;have z1:first = #[]:=Array.size_eq_zero_iff.1 (Nat.eq_of_beq_eq_true hb);subst z1;split at h
    ·rename_i l hl;have hf':a.eval f=.func (.func id) #[] captured:=aI hM hf;have hargs:=oO hM hl;have ea:c.args.map a.eval=(l.map (AV.den β)).toArray:=by rw[←Array.toArray_toList (xs:=c.args.map a.eval),Array.toList_map,hargs]
     have hrun:(∀args w,(callFunc id args).run E.P w=.ok (.enter id args) w)→(execOp a.eval o).run E.P w=.ok (.enter id (l.map (AV.den β)++captured.toList).toArray) w:=fun h1=>by
      have e3:(l.map (AV.den β)).toArray++captured=(l.map (AV.den β)++captured.toList).toArray:=by simp
      simp[execOp,ho,resolve,hc,Deferred.ofValue,hf',invoke,ea,h1]
     split at h
     ·rename_i k hky;split at h
      ·rename_i row b hrow hatm;split at h
       ·rename_i p1 cbs p2 cps hcb hcap;split at h
        ·rename_i pre' r row' hr;cases hb : !(Nat.beq k d)<;>rw[hb]at h
         ·cases h
         ·cases h;rw[aS,aS]at hp;have hkd:k≠d:=fun e=>by rw[e]at hb; simp at hb
          obtain⟨r1,r2,r3,r4⟩:=hM _ (aX hrow);obtain⟨r5,r6,r7⟩:=r3 rfl;have hat:=hM _ (dO hatm);simp only[Fact.ok]at hat;obtain⟨e1,e2⟩:=hat;subst e1;have hargs6:=CBs.app (wI hM ⟨rfl,e2⟩ hcb hp.1) (mS (w:=w) hcap hp.2.1);obtain⟨h1,h2⟩:=hX.2.2.2.2.2 _ _ _ _ _ _ _ hr hp.2.2;rw[r6]at r2;have hcall:=h2 _ r1 r2 r7 hargs6;unfold Oper.wp;rw[hrun h1];refine Calls.mono hcall ?_
          rintro e w' ⟨rfl,hwr,hrg⟩
          show K _ _;rw[hdst,←RV.av_den β r];refine hK β _ _ ⟨eS _ _ _,dM _ _ _,fun s hs=>jJ _ _ _ _ hs,fun _ _=>rfl,hwr.below.size,fun p hp hne=>hwr.mem p hp (hne k rfl),hwr.shape,fun w0 h0=>h0.trans (hwr.below.mono r5),fun φ hφ => ?_,fun k' l1 hk => ?_,fun k1 k2 l1 l2 hk hk' => ?_,fun k' hk => ?_,fun k' l1 hk => ?_⟩
          ·simp only[List.mem_cons,List.not_mem_nil,or_false]at hφ
           rcases hφ with rfl|rfl
           ·show (a.put (some d) _).tmps[d]?=_;rw[eW _ _ _ hd]
           ·exact⟨Nat.lt_of_lt_of_le r1 hwr.below.size,by rw[r6]; exact hrg,fun _=>⟨r5,r6,hwr.free⟩,fun h=>by cases h⟩
          ·simp only[List.mem_cons,List.not_mem_nil,or_false,reduceCtorEq,false_or]at hk;cases hk;exact Or.inr (Or.inl ⟨fun e=>hkd (by injection e with e; exact e.symm),row,aX hrow⟩)
          ·simp only[List.mem_cons,List.not_mem_nil,or_false,reduceCtorEq,false_or]at hk hk';cases hk; cases hk'; rfl
          ·cases hk;exact⟨row,aX hrow⟩
          ·simp only[List.mem_cons,List.not_mem_nil,or_false,reduceCtorEq,false_or]at hk;cases hk
        ·cases h
       ·cases h
      ·cases h
     split at h
     ·rename_i cs hcs;have hcas:=nX hM hcs;have hcap:∀(cs:List CA) (vs:List Value) (us:List Value),cF w cs vs→cF w (cs++us.map fun v=>.v (.im v)) (vs++us):=fun cs=>by
       induction cs with
       | nil =>
        intro vs us h;cases vs with
        | cons _ _=>exact h.elim
        | nil =>
         induction us with
         | nil=>trivial
         | cons u us ih=>exact⟨rfl,ih⟩
       | cons c cs ih =>
        intro vs us h;cases vs with
        | nil=>cases c<;>exact h.elim
        | cons v vs=>cases c<;>exact⟨h.1,ih vs us h.2⟩
      have hcas':=hcap cs _ captured.toList hcas;split at h
      ·rename_i pre' r hr;cases h;obtain⟨h1,h2⟩:=hT _ _ _ _ _ hr hp;have hcall:=h2 _ hcas';unfold Oper.wp;rw[hrun h1];refine Calls.mono hcall ?_
       rintro e w' ⟨rfl,hbl⟩
       show K _ _;rw[hdst,←RV.av_den β r];exact hK _ _ _ (mN r.av hd hB hbl)
      ·split at h
       ·rename_i pre' r hr;cases h;obtain⟨h1,h2⟩:=hX.2.1 _ _ _ _ hr hp;have hcall:=h2 _ hcas';unfold Oper.wp;rw[hrun h1];refine Calls.mono hcall ?_
        rintro e w' ⟨b,rfl,hbl,hb1,hb2,hb3,hb4⟩
        show K _ _;rw[hdst];exact hK _ _ _ (EV r b hd hB hbl hb1 hb2 hb3 hb4)
       ·split at h
        ·rename_i pre' r hr;cases h;obtain⟨h1,h2⟩:=hX.2.2.1 _ _ _ _ hr hp;have hcall:=h2 _ hcas';unfold Oper.wp;rw[hrun h1];refine Calls.mono hcall ?_
         rintro e w' ⟨b,cap,rfl,hbl,hb1,hb2,hb3,hb4,hb5⟩
         show K _ _;rw[hdst];exact hK _ _ _ (BA r b cap hd hB hbl hb1 hb2 hb3 hb4 hb5)
        ·split at h
         ·rename_i pre' j l' hr;have hw4:∀(k n m:Nat) (l0:List At) (v:AV),l[j]?=some v→v.den β=.slice (some ⟨(β k).1,(β k).2.1,none⟩) n m→(v=.so k n∨v=.sl k 0 n m)→cX M k=some (true,l0)→k≠d→aQ pre' →
            (∀β' a' w',PostB base β β' a w (some d) M [.slot d v,.row k true l'] (some k) a' w'→K a' w')→o.wp E.P a w K Q:=by
           intro k n m l0 v hv hden hvv hrow hkd hp' hK';obtain⟨h1,h2⟩:=hX.2.2.2.1 _ _ _ _ _ hr hp';obtain⟨r1,r2,r3,r4⟩:=hM _ (aX hrow);obtain⟨r5,r6,r7⟩:=r3 rfl;have hargj:(l.map (AV.den β)++captured.toList)[j]?=some (.slice (some ⟨(β k).1,(β k).2.1,none⟩) n m):=by
            have hlt:j<(l.map (AV.den β)).length:=by rw[List.length_map]; exact (List.getElem?_eq_some_iff.1 hv).1
            rw[List.getElem?_append_left hlt,List.getElem?_map,hv,←hden]; rfl
           have hcall:=h2 _ hcas' _ _ _ _ hargj r7;unfold Oper.wp;rw[hrun h1];refine Calls.mono hcall ?_
           rintro e w' ⟨rfl,hwr,hrg⟩
           show K _ _;rw[hdst];refine hK' β _ _ ⟨eS _ _ _,dM _ _ _,fun s hs=>jJ _ _ _ _ hs,fun _ _=>rfl,hwr.size,fun p hp hne => ?_,hwr.shape,fun w0 h0 => ?_,fun φ hφ => ?_,fun k' l1 hk => ?_,fun k1 k2 l1 l2 hk hk' => ?_,fun k' hk => ?_,fun k' l1 hk=>by simp at hk⟩
           ·have:=hwr.block p.block hp (hne k rfl);exact⟨World.cell?_of_block this,World.frozen?_of_block this⟩
           ·exact h0.trans ⟨hwr.os,hwr.tape,hwr.output,hwr.size,fun q hq=>hwr.block q (by omega) (by omega)⟩
           ·simp only[List.mem_cons,List.not_mem_nil,or_false]at hφ
            rcases hφ with rfl|rfl
            ·show (a.put (some d) _).tmps[d]?=_;rw[eW _ _ _ hd,hden]
            ·exact⟨Nat.lt_of_lt_of_le r1 hwr.size,hrg,fun _=>⟨r5,r6,fun q=>by rw[hwr.frozen]; exact r7 q⟩,fun h=>by cases h⟩
           ·simp only[List.mem_cons,List.not_mem_nil,or_false,reduceCtorEq,false_or]at hk;cases hk;exact Or.inr (Or.inl ⟨fun e=>hkd (by injection e with e; exact e.symm),l0,aX hrow⟩)
           ·simp only[List.mem_cons,List.not_mem_nil,or_false,reduceCtorEq,false_or]at hk hk';cases hk; cases hk'; rfl
           ·cases hk;exact⟨l0,aX hrow⟩
          unfold wrA at h;split at h
          ·rename_i k n hv;split at h
           ·rename_i l0 hrow;cases hb : !(Nat.beq k d)<;>rw[hb]at h
            ·cases h
            ·cases h;have hkd:k≠d:=fun e=>by rw[e]at hb; simp at hb
             exact hw4 k n (β k).2.2 l0 _ hv rfl (Or.inl rfl) hrow hkd hp hK
           ·cases h
          ·rename_i k n m hv;split at h
           ·rename_i l0 hrow;cases hb : !(Nat.beq k d)<;>rw[hb]at h
            ·cases h
            ·cases h;have hkd:k≠d:=fun e=>by rw[e]at hb; simp at hb
             exact hw4 k n m l0 _ hv rfl (Or.inr rfl) hrow hkd hp hK
           ·cases h
          ·cases h
         ·split at h
          ·rename_i pre' j r l' hr;unfold wrP at h;split at h
           ·rename_i k i hv;split at h
            ·rename_i l0 hrow;cases hb : !(Nat.beq k d)<;>rw[hb]at h
             ·cases h
             ·cases h;have hkd:k≠d:=fun e=>by rw[e]at hb; simp at hb
              obtain⟨h1,h2⟩:=hX.2.2.2.2.1 _ _ _ _ _ _ hr hp;obtain⟨r1,r2,r3,r4⟩:=hM _ (aX hrow);obtain⟨r5,r6,r7⟩:=r3 rfl;have hargj:(l.map (AV.den β)++captured.toList)[j]?=some (.pointer (some ⟨(β k).1,i,none⟩)):=by
               have hlt:j<(l.map (AV.den β)).length:=by rw[List.length_map]; exact (List.getElem?_eq_some_iff.1 hv).1
               rw[List.getElem?_append_left hlt,List.getElem?_map,hv];simp[AV.den,r6]
              have hcall:=h2 _ hcas' _ _ hargj r7;unfold Oper.wp;rw[hrun h1];refine Calls.mono hcall ?_
              rintro e w' ⟨rfl,hwr,hrg⟩
              show K _ _;rw[hdst,←RV.av_den β r];refine hK β _ _ ⟨eS _ _ _,dM _ _ _,fun s hs=>jJ _ _ _ _ hs,fun _ _=>rfl,hwr.below.size,fun p hp hne=>hwr.mem p hp (hne k rfl),hwr.shape,fun w0 h0=>h0.trans (hwr.below.mono r5),fun φ hφ => ?_,fun k' l1 hk => ?_,fun k1 k2 l1 l2 hk hk' => ?_,fun k' hk => ?_,fun k' l1 hk=>by simp at hk⟩
              ·simp only[List.mem_cons,List.not_mem_nil,or_false]at hφ
               rcases hφ with rfl|rfl
               ·show (a.put (some d) _).tmps[d]?=_;rw[eW _ _ _ hd]
               ·exact⟨Nat.lt_of_lt_of_le r1 hwr.below.size,by rw[r6]; exact hrg,fun _=>⟨r5,r6,hwr.free⟩,fun h=>by cases h⟩
              ·simp only[List.mem_cons,List.not_mem_nil,or_false,reduceCtorEq,false_or]at hk;cases hk;exact Or.inr (Or.inl ⟨fun e=>hkd (by injection e with e; exact e.symm),l0,aX hrow⟩)
              ·simp only[List.mem_cons,List.not_mem_nil,or_false,reduceCtorEq,false_or]at hk hk';cases hk; cases hk'; rfl
              ·cases hk;exact⟨l0,aX hrow⟩
            ·cases h
           ·cases h
          ·cases h
     ·cases h
    ·cases h
  ·cases h
 ·rename_i x name hc;split at h
  ·rename_i t l0 hx;split at h
   ·rename_i id hid;split at h
    ·rename_i l hl;split at h
     ·rename_i cs hcs;split at h
      ·rename_i pre' r hr;cases h;obtain⟨h1,h2⟩:=hT _ _ _ _ _ hr hp;have hx':a.eval x=.iface t (.agg (aB l0).toArray):=aI hM hx;have hargs:=oO hM hl;have hcas:=nX hM hcs;have hcall:=h2 (.agg (aB l0).toArray::l.map (AV.den β)) ⟨rfl,hcas⟩;have ea:c.args.map a.eval=(l.map (AV.den β)).toArray:=by rw[←Array.toArray_toList (xs:=c.args.map a.eval),Array.toList_map,hargs]
       unfold Oper.wp;have hen:∀xs,(callFunc id xs).run E.P w=.ok (.enter id xs) w:=fun xs=>h1 xs w
       have hmt:=DZ w hid (.agg (aB l0).toArray) (l.map (AV.den β)).toArray hen;have hrun:(execOp a.eval o).run E.P w=.ok (.enter id (#[.agg (aB l0).toArray]++(l.map (AV.den β)).toArray)) w:=by
        have hex:(#[Value.iface t (.agg (aB l0).toArray)]++(l.map (AV.den β)).toArray).extract 1 (#[Value.iface t (.agg (aB l0).toArray)]++(l.map (AV.den β)).toArray).size=(l.map (AV.den β)).toArray:=by simp[List.take_of_length_le]
        have hg0:(#[Value.iface t (.agg (aB l0).toArray)]++(l.map (AV.den β)).toArray)[0]?=some (Value.iface t (.agg (aB l0).toArray)):=by simp
        simp only[execOp,ho,resolve,hc,ea,hx',Sem.run_bind,Sem.run_pure,Result.andThen_ok,invoke,hg0,hex];exact hmt
       rw[hrun];have e2:(#[Value.agg (aB l0).toArray]++(l.map (AV.den β)).toArray)=(Value.agg (aB l0).toArray::l.map (AV.den β)).toArray:=by simp
       rw[e2];refine Calls.mono hcall ?_
       rintro e w' ⟨rfl,hbl⟩
       show K _ _;rw[hdst,←RV.av_den β r];exact hK _ _ _ (mN r.av hd hB hbl)
      ·cases h
     ·cases h
    ·cases h
   ·cases h
  ·cases h
 ·cases h
end
end Go.Proofs.Ytjjnbgoepbiojaa.Ex
