/- Jz03 -/
import Derived.Test.YtjeplinbleofnaaGreatJz02
import Derived.Test.YtjeplinbleofnaaGreatProg
set_option maxRecDepth 100000
set_option linter.unusedVariables false
set_option linter.unusedSimpArgs false
set_option linter.unnecessarySimpa false
namespace Go.Proofs.YtjeplinbleofnaaGreat.Ex
open Go.Proofs.Tryz
open Go.RowKit
abbrev Gu:=Option (List Prop×List Fact×Option Nat)
def Gs:At→Bool
 | .c v=>sH v
 | _=>true
def KJ (M:List Fact):List AV→Option (List Value)
 | []=>some []
 | .im v::r=>match KJ M r with|some l=>some (v::l)|none=>none
 | .pt k o::r=>match sY M k,KJ M r with|some b,some l=>some (.pointer (some ⟨b,o,none⟩)::l)|_,_=>none
 | _::_=>none
def GG (M:List Fact) (ky:Option Nat) (v:Value):Option (List Prop×AV) :=
 match ky with
 | none=>some ([],.im v)
 | some k=>match v,sY M k with
  | .slice (some ⟨b,0,none⟩) n m,some b'=>some ([b=b'],.sl k 0 n m)
  | .pointer (some ⟨b,0,none⟩),some b'=>some ([b=b'],.pt k 0)
  | _,_=>none
def bD (op:BinOp) (k:IntKind) (a b:Int):Option Value :=
 match op with
 | .add=>some (.int k (k.wrap (a+b)))
 | .sub=>some (.int k (k.wrap (a-b)))
 | .mul=>some (.int k (k.wrap (a*b)))
 | .rem=>if b=0 then none else some (.int k (a.tmod b))
 | .quo=>if b=0 then none else some (.int k (k.wrap (a.tdiv b)))
 | .eql=>some (.bool (a==b))
 | .neq=>some (.bool (a != b))
 | .lss=>some (.bool (decide (a<b)))
 | .leq=>some (.bool (decide (a≤b)))
 | .gtr=>some (.bool (decide (a>b)))
 | .geq=>some (.bool (decide (a≥b)))
 | _=>none
def Mj (E:Env) (d:Nat) (op:BinOp) (t:Nat) (x y:AV):Gu :=
 match x,y with
 | .im (.int k a),.im (.int k' b)=>if k=k' then (match E.num d with
  | some v=>some ([bD op k a b=some v],[.slot d (.im v)],none)
  | none=>match bD op k a b with|some v=>some ([],[.slot d (.im v)],none)|none=>none)else none
 | .im (.bool a),.im (.bool b)=>match E.P.underlying t with
  | some .bool=>(match op with
   | .eql=>some ([],[.slot d (.im (.bool (a==b)))],none)
   | .neq=>some ([],[.slot d (.im (.bool (a != b)))],none)
   | _=>none)
  | _=>none
 | .fl l,.fl m=>bif E.q.fit t l&&E.q.fit t m then
   (bif E.hint d then (match E.q.q t with
    | some n=>bif Nat.beq (fI l) n&&Nat.beq (fI m) n then
      (match op with
      | .eql=>some ([aD l=aD m],[.slot d (.im (.bool true))],none)
      | .neq=>some ([aD l=aD m],[.slot d (.im (.bool false))],none)
      | _=>none)else none
    | none=>none)
   else (match E.q.n t with
    | some n=>bif Nat.beq (fI l) n&&Nat.beq (fI m) n then
      (match op with
      | .eql=>some ([aD l≠aD m],[.slot d (.im (.bool false))],none)
      | .neq=>some ([aD l≠aD m],[.slot d (.im (.bool true))],none)
      | _=>none)else none
    | none=>none))else none
 | _,_=>none
def Mo (P:Program) (t:Nat):Option (Nat×Nat×Nat):=match P.underlying t with
 | some (.slice e)=>(match P.info? e with
  | some i=>(match i.zero with
   | some z=>bif Nat.beq z.cells.size i.size&&Nat.blt 0 i.size then some (e,i.size,i.bytes)else none
   | none=>none)
  | none=>none)
 | _=>none
def Oc (M:List Fact) (sz:Nat):AV→Option (Nat×List At)
 | .sl k o n m=>match dG M k with
  | some (_,l)=>(match Gp l o with|some r=>(match tk r (n*sz)with|some t=>some (n,t)|none=>none)|none=>none)
  | none=>none
 | .so k n=>match dG M k with
  | some (_,l)=>(match tk l (n*sz)with|some t=>some (n,t)|none=>none)
  | none=>none
 | _=>none
def Ru (M:List Fact) (e sz:Nat):AV→Option (Nat×List At×Option Nat)
 | .im (.slice none 0 0)=>some (0,[],none)
 | .so k n=>match dG M k,oF M k with
  | some (true,l),some (e',sz',n')=>bif Nat.beq e e'&&(Nat.beq sz sz'&&(Nat.beq n n'&&Nat.beq (fI l) (n*sz)))then some (n,l,some k)else none
  | _,_=>none
 | _=>none
def Qm (E:Env) (M:List Fact) (sz d:Nat) (v:AV):Option (Nat×List At×List Prop):=match E.q.x.ld d with
 | some news=>(match v with
  | .sl k o n _=>(match dG M k with|some (_,l)=>some (n,news,[LW l o (n*sz)=some news])|none=>none)
  | .so k n=>(match dG M k with|some (_,l)=>some (n,news,[LW l 0 (n*sz)=some news])|none=>none)
  | .im (.slice (some ⟨b,o,.none⟩) n _)=>some (n,news,[E.q.x.old b o news,fI news=n*sz])
  | _=>none)
 | none=>(match Oc M sz v with|some (m,t)=>some (m,t,[])|none=>none)
def Ql (M:List Fact) (e sz:Nat):AV→Option (Nat×List At×Option Nat×List Prop)
 | .im (.slice none 0 0)=>some (0,[],none,[])
 | .so k n=>match dG M k,oF M k with
  | some (true,l),some (e',sz',n')=>bif Nat.beq e e'&&Nat.beq sz sz' then some (n,l,some k,[n=n',fI l=n*sz])else none
  | _,_=>none
 | _=>none
def CS (P:Program) (t:Nat) (name:String):Option Nat :=
 match P.info? t,P.underlying t with
 | some i,some d=>(match d with
  | .pointer _=>none
  | _=>(match i.methods.find? (·.name==name)with
   | some m=>(match m.path.toList,m.func with
    | [],some (f,false)=>some f
    | _,_=>none)
   | none=>none))
 | _,_=>none
def QB (P:Program) (t:Nat):Bool:=match P.underlying t with|some (.interface _)=>true|some _=>false|none=>true
def gZ (P:Program) (t:Nat):Bool:=match P.underlying t with|some (.struct _)=>false|some (.array _ _)=>false|some _=>true|none=>false
def Qu (M:List Fact) (d:Nat) (pre:List Prop) (v:Option AV) (l':List At):Gu:=match v with
 | some (.so k n)=>(match dG M k with
  | some (true,l)=>bif !(Nat.beq k d)then some (pre,[.slot d (.so k n),.row k true l'],some k)else none
  | _=>none)
 | some (.sl k 0 n m)=>(match dG M k with
  | some (true,l)=>bif !(Nat.beq k d)then some (pre,[.slot d (.sl k 0 n m),.row k true l'],some k)else none
  | _=>none)
 | _=>none
def Qt (M:List Fact) (d:Nat) (pre:List Prop) (v:Option AV) (r:RV) (l':List At):Gu:=match v with
 | some (.pt k o)=>(match dG M k with
  | some (true,l)=>bif !(Nat.beq k d)then some (pre,[.slot d r.av,.row k true l'],some k)else none
  | _=>none)
 | _=>none
def gN:Option Nat→Nat→Bool
 | some d,s=>Nat.beq d s
 | none,_=>false
theorem cS {d:Option Nat} {s:Nat}:gN d s=true↔d=some s:=by
 cases d with
 | none=>simp[gN]
 | some x=>simp[gN]
def Oa (M:List Fact) (k b:Nat):AV→Option (List Prop×CB)
 | .im v=>some ([],.v (.im v))
 | .fl l=>some ([],.v (.fl l))
 | .sl k' o n m=>bif Nat.beq k' k then some ([],.sl o n m)else (match dG M k',sY M k' with
  | some (_,l),some b'=>(match Gp l o with|some r=>some ([b'≠b],.r r n m)|none=>none)
  | _,_=>none)
 | .pt k' o=>bif Nat.beq k' k then some ([],.pt o)else none
 | _=>none
def XD (M:List Fact) (k b:Nat):List AV→Option (List Prop×List CB)
 | []=>some ([],[])
 | v::r=>match Oa M k b v,XD M k b r with|some (p,c),some (ps,l)=>some (p++ps,c::l)|_,_=>none
def RZ (j:Option Nat) (b:Nat):Nat→List Value→List Prop×List CB
 | _,[]=>([],[])
 | i,v::r=>match RZ j b (i+1) r with
  | (ps,l)=>bif gN j i then (match v with
   | .pointer (some ⟨c,o,.none⟩)=>((c=b)::ps,.pt o::l)
   | v=>(ps,.v (.im v)::l))else (ps,.v (.im v)::l)
def bJ (E:Env) (M:List Fact) (d:Nat):Op→Gu
 | .move x=>match ev M x with|some v=>some ([],[.slot d v],none)|none=>none
 | .assign x=>match ev M x with|some v=>some ([],[.slot d v],none)|none=>none
 | .pick c x y=>match ev M c,ev M x,ev M y with
  | some (.im (.bool b)),some v,some u=>some ([],[.slot d (bif b then v else u)],none)
  | _,_,_=>none
 | .alloc t=>match XV E.P t with|some l=>some ([],[.slot d (.pt d 0),.row d true l],none)|none=>none
 | .box t x=>match ev M x with
  | some v=>match yT v with|some p=>some ([],[.slot d (.pt d 0),.row d true p],none)|none=>none
  | none=>none
 | .build t ps=>match mH M ps.toList with
  | some qs=>match EB E.P t qs with
   | some l=>(match E.q.x.ld d with
    | some l'=>some ([aD l=aD l'],[.slot d (.fl l')],none)
    | none=>some ([],[.slot d (.fl (nq l))],none))
   | none=>none
  | none=>none
 | .buildSlice t n ps=>match mH M ps.toList with
  | some qs=>match GZ E.P t n qs with|some l=>some ([],[.slot d (.sl d 0 n n),.row d true l],none)|none=>none
  | none=>none
 | .load t x=>match ev M x with
  | some (.pt k o)=>match dG M k,dF E.P t,mN E.P t with
   | some (_,l),some n,true=>match E.q.x.ld d with
    | some s=>some ([LW l o n=some s],[.slot d (.fl s)],none)
    | none=>match LW l o n with|some s=>some ([],[.slot d (.fl s)],none)|none=>none
   | some (_,l),some 1,false=>bif gZ E.P t then (match E.q.x.gen d with
    | some v=>(match GG M (E.q.x.ky d) v with|some (p,u)=>some ((cellAt l o=some v)::p,[.slot d u],none)|none=>none)
    | none=>match cellAt l o with
     | some v=>(match GG M (E.q.x.ky d) v with|some (p,u)=>some (p,[.slot d u],none)|none=>none)
     | none=>none)else none
   | _,_,_=>none
  | some (.im (.pointer (some ⟨b,o,.none⟩)))=>match dF E.P t,mN E.P t with
   | some n,true=>(match E.q.x.ld d with
    | some s=>some ([E.q.x.old b o s,fI s=n],[.slot d (.fl s)],none)
    | none=>none)
   | some 1,false=>bif gZ E.P t then (match E.q.x.gen d with
    | some v=>some ([E.q.x.old b o [.c v]],[.slot d (.im v)],none)
    | none=>none)else none
   | _,_=>none
  | _=>none
 | .makeInterface t x=>match ev M x with
  | some (.fl l)=>bif QB E.P t then none else some ([],[.slot d (.ic t l)],none)
  | _=>none
 | .nilCheck x=>match ev M x with
  | some (.pt k o)=>some ([],[.slot d (.pt k o)],none)
  | some (.im (.pointer (some p)))=>some ([],[.slot d (.im (.pointer (some p)))],none)
  | _=>none
 | .fieldAddr s x i=>match ev M x,E.P.underlying s with
  | some (.pt k o),some (.struct fs)=>match fs[i]? with
   | some f=>match dF E.P f.type with
    | some n=>bif Nat.beq n 0 then none else some ([],[.slot d (.pt k (o+f.offset))],none)
    | none=>none
   | none=>none
  | some (.im (.pointer (some ⟨b,o,.none⟩))),some (.struct fs)=>match fs[i]? with
   | some f=>match dF E.P f.type with
    | some n=>bif Nat.beq n 0 then none else some ([],[.slot d (.im (.pointer (some ⟨b,o+f.offset,.none⟩)))],none)
    | none=>none
   | none=>none
  | _,_=>none
 | .indexAddr t x y=>match E.q.x.idx d with
  | some j=>(match ev M x,ev M y,E.P.underlying t with
   | some (.pt k o),some (.im (.int kd i)),some (.array n e)=>(match dF E.P e with
    | some s=>some ([i=Int.ofNat j,j<n],[.slot d (.pt k (o+j*s))],none)
    | none=>none)
   | some (.sl k o n m),some (.im (.int kd i)),some (.slice e)=>(match dF E.P e with
    | some s=>some ([i=Int.ofNat j,j<n],[.slot d (.pt k (o+j*s))],none)
    | none=>none)
   | some (.im (.pointer (some ⟨b,o,.none⟩))),some (.im (.int kd i)),some (.array n e)=>(match dF E.P e with
    | some s=>some ([i=Int.ofNat j,j<n],[.slot d (.im (.pointer (some ⟨b,o+j*s,.none⟩)))],none)
    | none=>none)
   | some (.im (.slice (some ⟨b,o,.none⟩) n m)),some (.im (.int kd i)),some (.slice e)=>(match dF E.P e with
    | some s=>some ([i=Int.ofNat j,j<n],[.slot d (.im (.pointer (some ⟨b,o+j*s,.none⟩)))],none)
    | none=>none)
   | _,_,_=>none)
  | none=>match ev M x,ev M y with
  | some (.pt k o),some (.im (.int kd (.ofNat i)))=>match E.P.underlying t with
   | some (.array n e)=>match dF E.P e with
    | some s=>bif Nat.blt i n then some ([],[.slot d (.pt k (o+i*s))],none)else none
    | none=>none
   | _=>none
  | some (.sl k o n m),some (.im (.int kd (.ofNat i)))=>match E.P.underlying t with
   | some (.slice e)=>match dF E.P e with
    | some s=>bif Nat.blt i n then some ([],[.slot d (.pt k (o+i*s))],none)else none
    | none=>none
   | _=>none
  | some (.so k n),some (.im (.int kd (.ofNat i)))=>match E.P.underlying t with
   | some (.slice e)=>match dF E.P e with
    | some s=>bif Nat.blt i n then some ([],[.slot d (.pt k (i*s))],none)else none
    | none=>none
   | _=>none
  | _,_=>none
 | .index t x y=>match E.q.x.gen d with
  | some v=>(match ev M x,ev M y,E.P.underlying t with
   | some (.fl l),some (.im (.int kd (.ofNat i))),some (.array n e)=>(match dF E.P e with
    | some 1=>bif gZ E.P e then some ([i<n,cellAt l i=some v],[.slot d (.im v)],none)else none
    | _=>none)
   | _,_,_=>none)
  | none=>match ev M x,ev M y with
  | some (.fl l),some (.im (.int kd (.ofNat i)))=>match E.P.underlying t with
   | some (.array n e)=>match dF E.P e,mN E.P e with
    | some s,true=>bif Nat.blt i n then (match LW l (i*s) s with|some r=>some ([],[.slot d (.fl r)],none)|none=>none)else none
    | some 1,false=>bif gZ E.P e&&Nat.blt i n then (match cellAt l i with|some v=>some ([],[.slot d (.im v)],none)|none=>none)else none
    | _,_=>none
   | _=>none
  | _,_=>none
 | .field s x i=>match ev M x,E.P.underlying s with
  | some (.fl l),some (.struct fs)=>match fs[i]? with
   | some f=>match dF E.P f.type,mN E.P f.type with
    | some n,true=>(match LW l f.offset n with|some r=>some ([],[.slot d (.fl r)],none)|none=>none)
    | some 1,false=>bif gZ E.P f.type then (match cellAt l f.offset with|some v=>some ([],[.slot d (.im v)],none)|none=>none)else none
    | _,_=>none
   | none=>none
  | _,_=>none
 | .extract x i=>match ev M x with
  | some (.tu l)=>match l[i]? with|some t=>some ([],[.slot d t.av],none)|none=>none
  | some (.tf k n m post)=>match i with
   | 0=>some ([],[.slot d (.sl k 0 n m)],none)
   | i+1=>match post[i]? with|some t=>some ([],[.slot d t.av],none)|none=>none
  | some (.tg k n ante post)=>bif Nat.blt i ante.length then (match ante[i]? with|some t=>some ([],[.slot d t.av],none)|none=>none)
   else bif Nat.beq i ante.length then some ([],[.slot d (.so k n)],none)
   else (match post[i-ante.length-1]? with|some t=>some ([],[.slot d t.av],none)|none=>none)
  | _=>none
 | .slice t x (some lo) (some hi) none=>match E.q.x.gen d with
  | some r=>(match ev M x,ev M lo,ev M hi with
   | some (.im v),some (.im u),some (.im u')=>some ([∀w:World,(Instr.sliceAt t v (some u) (some u') none).run E.P w=.ok r w],[.slot d (.im r)],none)
   | _,_,_=>none)
  | none=>match ev M x,ev M lo,ev M hi,E.P.underlying t with
  | some (.sl k o n m),some (.im (.int _ (.ofNat i))),some (.im (.int _ (.ofNat j))),some (.slice e)=>match dF E.P e with
   | some s=>some ([i≤j,j≤m,i<m],[.slot d (.sl k (o+i*s) (j-i) (m-i))],none)
   | none=>none
  | _,_,_,_=>none
 | .slice t x (some lo) none none=>match E.q.x.gen d with
  | some r=>(match ev M x,ev M lo with
   | some (.im v),some (.im u)=>some ([∀w:World,(Instr.sliceAt t v (some u) none none).run E.P w=.ok r w],[.slot d (.im r)],none)
   | _,_=>none)
  | none=>match ev M x,ev M lo,E.P.underlying t with
   | some (.sl k o n m),some (.im (.int _ (.ofNat i))),some (.slice e)=>(match dF E.P e with
    | some s=>some ([i≤n,n≤m,i<m],[.slot d (.sl k (o+i*s) (n-i) (m-i))],none)
    | none=>none)
   | _,_,_=>none
 | .slice t x none hi none=>match ev M x,E.P.underlying t with
  | some (.pt k o),some (.array n e)=>match dF E.P e with
   | some s=>match hi with
    | none=>some ([],[.slot d (.sl k o n n)],none)
    | some y=>match ev M y with
     | some (.im (.int kd (.ofNat h)))=>bif Nat.ble h n then some ([],[.slot d (.sl k o h n)],none)else none
     | _=>none
   | none=>none
  | some (.sl k o n m),some (.slice e)=>match hi with
   | some y=>(match ev M y,dF E.P e with
    | some (.im (.int kd (.ofNat h))),some s=>some ([h≤m],[.slot d (.sl k o h m)],none)
    | _,_=>none)
   | none=>none
  | some (.im (.slice p n m)),some (.slice e)=>match hi with
   | some y=>(match ev M y,dF E.P e with
    | some (.im (.int kd (.ofNat h))),some s=>some ([h≤m],[.slot d (.im (.slice p h m))],none)
    | _,_=>none)
   | none=>none
  | _,_=>none
 | .binOp op t x y _=>match E.q.x.gen d with
  | some r=>(match ev M x,ev M y with
   | some (.im v),some (.im u)=>some ([∀w:World,(do eqGuard op t x y v u; binOp op t v u:Sem Value).run E.P w=.ok r w],[.slot d (.im r)],none)
   | _,_=>none)
  | none=>match ev M x,ev M y with|some v,some u=>Mj E d op t v u|_,_=>none
 | .convert src dst x=>match E.q.x.gen d,ev M x with
  | some r,some (.im v)=>some ([∀w:World,(convert src dst v).run E.P w=.ok r w],[.slot d (.im r)],none)
  | _,_=>none
 | .makeFunc fn first captured=>match fn with
  | .func id=>bif Nat.beq first.size 0 then (match Ej M captured.toList with
   | some l=>(match KJ M l with|some vs=>some ([],[.slot d (.im (.func (.func id) #[] vs.toArray))],none)|none=>none)
   | none=>none)else none
  | _=>none
 | .makeSlice t l c=>match E.q.x.mks d,ev M l,ev M c with
  | some (n,L),some (.im v),some (.im u)=>some ([∃e,∀w:World,(Instr.makeSlice t v u).run E.P w=.ok (.slice (some ⟨w.heap.size,0,none⟩) n n) (w.alloc (.cells (aD L).toArray e))],[.slot d (.sl d 0 n n),.row d true L],none)
  | _,_,_=>none
 | .unOp op _ x=>match E.q.x.gen d with
  | some r=>(match ev M x with
   | some (.im v)=>some ([∀w:World,(Op.unary op v).run E.P w=.ok r w],[.slot d (.im r)],none)
   | _=>none)
  | none=>match op,ev M x with
  | .not,some (.im (.bool b))=>match E.num d with
   | some v=>some ([Value.bool (!b)=v],[.slot d (.im v)],none)
   | none=>some ([],[.slot d (.im (.bool (!b)))],none)
  | _,_=>none
 | .call c=>match c.callee with
  | .builtin .len=>match c.args.toList,c.argTypes.toList with
   | [x],[t]=>match ev M x,E.P.underlying t with
    | some (.sl k o n m),some (.slice e)=>some ([],[.slot d (.im (goInt n))],none)
    | some (.im (.slice p n m)),some (.slice e)=>some ([],[.slot d (.im (goInt n))],none)
    | some (.so k n),some (.slice e)=>some ([],[.slot d (.im (goInt n))],none)
    | _,_=>none
   | _,_=>none
  | .builtin .append=>match c.args.toList,c.argTypes.toList with
   | [x,y],[t,t']=>bif Nat.beq t t' then (match ev M x,ev M y,Mo E.P t with
    | some u,some v,some (e,sz,by8)=>(match E.q.x.mks d with
     | some (N',L')=>(match Qm E M sz d v,Ql M e sz u with
      | some (m,news,p1),some (n,l,kl,p2)=>some (p1++(p2++[∀x∈aD news,x.oneCell'=true,0<m,(n+m)*by8≤140737488355328,n+m≤4611686018427387904,N'=n+m,aD L'=aD (l++news)]),[.slot d (.so d N'),.row d true L',.app d e sz N'],kl)
      | _,_=>none)
     | none=>match Oc M sz v,Ru M e sz u with
     | some (m,news),some (n,l,kl)=>bif news.all Gs&&(Nat.blt 0 m&&(Nat.ble ((n+m)*by8) 140737488355328&&Nat.ble (n+m) 4611686018427387904))then some ([],[.slot d (.so d (n+m)),.row d true (l++news),.app d e sz (n+m)],kl)else none
     | _,_=>none)
    | _,_,_=>none)else none
   | _,_=>none
  | .builtin .max=>match c.args.toList with
   | [x,y]=>match ev M x,ev M y with
    | some (.im (.int k a)),some (.im (.int k' b))=>match E.num d with
     | some v=>some ([Value.int k (if b>a then b else a)=v],[.slot d (.im v)],none)
     | none=>some ([],[.slot d (.im (.int k (if b>a then b else a)))],none)
    | _,_=>none
   | _=>none
  | .builtin .min=>match c.args.toList with
   | [x,y,z]=>match ev M x,ev M y,ev M z,E.num d with
    | some (.im (.int k a)),some (.im (.int k' b)),some (.im (.int k'' c)),some v=>some ([Value.int k (if c<(if b<a then b else a)then c else (if b<a then b else a))=v],[.slot d (.im v)],none)
    | _,_,_,_=>none
   | [x,y]=>match ev M x,ev M y,E.num d with
    | some (.im (.int k a)),some (.im (.int k' b)),some v=>some ([Value.int k (if b<a then b else a)=v],[.slot d (.im v)],none)
    | _,_,_=>none
   | _=>none
  | .builtin .complex=>match E.q.x.gen d,c.args.toList with
   | some r,[x,y]=>(match ev M x,ev M y with
    | some (.im v),some (.im u)=>some ([∀w:World,(Builtin.complex_ #[] 0 #[v,u]).run E.P w=.ok r w],[.slot d (.im r)],none)
    | _,_=>none)
   | _,_=>none
  | .builtin .real=>match E.q.x.gen d,c.args.toList with
   | some r,[x]=>(match ev M x with
    | some (.im v)=>some ([∀w:World,(Builtin.real_ #[] 0 #[v]).run E.P w=.ok r w],[.slot d (.im r)],none)
    | _=>none)
   | _,_=>none
  | .builtin .imag=>match E.q.x.gen d,c.args.toList with
   | some r,[x]=>(match ev M x with
    | some (.im v)=>some ([∀w:World,(Builtin.imag_ #[] 0 #[v]).run E.P w=.ok r w],[.slot d (.im r)],none)
    | _=>none)
   | _,_=>none
  | .value f=>match ev M f with
   | some (.im (.func (.func id) first captured))=>bif Nat.beq first.size 0 then
     (match Ej M c.args.toList with
     | some l=>match E.q.x.ky d with
      | some k=>(match dG M k,sY M k with
       | some (true,row),some b=>(match XD M k b l,RZ (E.q.x.idx d) b 0 captured.toList with
        | some (p1,cbs),(p2,cps)=>(match E.q.x.T6 id b row (cbs++cps)with
         | some (pre,r,row')=>bif !(Nat.beq k d)then some (p1++(p2++pre),[.slot d r.av,.row k true row'],some k)else none
         | none=>none)
        | _,_=>none)
       | _,_=>none)
      | none=>match uW M l with
      | some cs=>match E.T d id (cs++captured.toList.map fun v=>.v (.im v))with
       | some (pre,r)=>some (pre,[.slot d r.av],none)
       | none=>match E.q.x.T2 id (cs++captured.toList.map fun v=>.v (.im v))with
        | some (pre,r)=>some (pre,[.slot d (bif r.post.isEmpty then .sl d 0 r.n r.m else .tf d r.n r.m r.post),.row d true r.l],none)
        | none=>match E.q.x.T3 id (cs++captured.toList.map fun v=>.v (.im v))with
         | some (pre,r)=>some (pre,.slot d (bif r.lone then .so d r.n else .tg d r.n r.ante r.post) :: .row d true r.l::(bif r.ap then [.app d r.e r.sz r.n]else []),none)
         | none=>match E.q.x.T4 id (cs++captured.toList.map fun v=>.v (.im v))with
          | some (pre,j,l')=>Qu M d pre (l[j]?) l'
          | none=>match E.q.x.T5 id (cs++captured.toList.map fun v=>.v (.im v))with
           | some (pre,j,r,l')=>Qt M d pre (l[j]?) r l'
           | none=>none
      | none=>none
     | none=>none)else none
   | _=>none
  | .invoke x name=>match ev M x with
   | some (.ic t l0)=>(match CS E.P t name with
    | some id=>(match Ej M c.args.toList with
     | some l=>match uW M l with
      | some cs=>match E.T d id (.v (.fl l0)::cs)with
       | some (pre,r)=>some (pre,[.slot d r.av],none)
       | none=>none
      | none=>none
     | none=>none)
    | none=>none)
   | _=>none
  | _=>none
 | _=>none
def Af (E:Env):Operand→Option (List At)
 | .tmp s=>E.q.x.st s
 | _=>none
def vH (E:Env) (M:List Fact):Op→Gu
 | .store t x y=>match ev M x,ev M y with
  | some (.pt k o),some v=>match yT v,dG M k,dF E.P t with
   | some p,some (true,l),some n=>bif Nat.beq n (fI p)&&p.all Gs then
     (match Af E x with
     | some l'=>some ([put l o p=some l'],[.row k true l'],some k)
     | none=>match put l o p with|some l'=>some ([],[.row k true l'],some k)|none=>none)else none
   | _,_,_=>none
  | _,_=>none
 | _=>none
def wG (ops:Array Oper) (M:List Fact):Option (Nat×Bool)→Option Bool
 | none=>some true
 | some (g,b)=>match (ops[g]?).bind (·.dst)with
  | some s=>match oU M s with|some (.im (.bool c))=>some (c==b)|some (.im (.tuple _))=>some false|_=>none
  | none=>none
def Gh (E:Env) (ops:Array Oper) (M:List Fact) (o:Oper):Gu :=
 match wG ops M o.guard with
 | some true=>(match o.dst with
  | some d=>bif Nat.blt d E.nt then bJ E M d o.op else none
  | none=>vH E M o.op)
 | some false=>(match o.dst with
  | some d=>bif Nat.blt d E.nt then some ([],[.slot d (.im undef)],none)else none
  | none=>none)
 | none=>none
theorem nR {ops:Array Oper} {M:List Fact} {base:Nat} {β:Nat→Bk} {a:Act} {w:World} (hM:∀φ∈M,φ.ok base β a w) {o:Oper} {t:Bool} (h:wG ops M o.guard=some t):Region.wanted o (yielded ops a.tmps)=t:=by
 unfold Region.wanted;cases hg:o.guard with
 | none=>rw[hg]at h; cases h; rfl
 | some gb =>
  obtain⟨g,b⟩:=gb;rw[hg]at h;unfold wG at h;simp only at h ⊢;unfold yielded;cases hs:(ops[g]?).bind (·.dst)with
  | none=>rw[hs]at h; cases h
  | some s =>
   rw[hs]at h;simp only at h;cases hl:oU M s with
   | none=>rw[hl]at h; cases h
   | some v =>
    rw[hl]at h;have:=hM _ (eJ hl);simp only[Fact.ok]at this;cases v with
    | im u =>
     cases u<;>first|(cases h; done)|skip
     all_goals
      cases h;simp[this,AV.den]
    | _=>cases h
theorem iH {P:Program} {o:Oper} {a:Act} {w w':World} {K:Act→World→Prop} {Q:Exit→Act→World→Prop} {v:Value} (h:(execOp a.eval o).run P w=.ok (.value v) w') (hK:K (a.put o.dst v) w'):o.wp P a w K Q:=by
 unfold Oper.wp;rw[h];exact hK
theorem RY {base:Nat} {β:Nat→Bk} {a:Act} {w:World} {M:List Fact} (hM:∀φ∈M,φ.ok base β a w) {k b:Nat} (hat:(β k).1=b∧(β k).2.1=0) {v:AV} {p:List Prop} {c:CB} (h:Oa M k b v=some (p,c)) (hp:aP p):c.ok w b (v.den β):=by
 cases v with
 | im v=>cases h; rfl
 | fl l=>cases h; rfl
 | sl k' o n m =>
  unfold Oa at h;simp only at h;cases hb:Nat.beq k' k<;>rw[hb]at h
  ·simp only[cond_false]at h;split at h
   ·rename_i ow l b' hr ha;split at h
    ·rename_i r hd;cases h;obtain⟨h1,h2,_⟩:=hM _ (aY hr);obtain⟨e1,e2⟩:=hM _ (eS ha);obtain⟨q,e,hq⟩:=sR hd;refine⟨(β k').1,(β k').2.1+o,rfl,h1,by rw[e1]; exact hp.1,fun j u hj => ?_⟩;have:=h2 (o+j) u (by rw[e,aO,List.getElem?_append_right (by rw[aM,hq]; omega),aM,hq]; simpa using hj)
     rwa [←Nat.add_assoc]at this
    ·cases h
   ·cases h
  ·cases Nat.eq_of_beq_eq_true hb;cases h;show Value.slice (some ⟨(β _).1,(β _).2.1+o,none⟩) n m=_;rw[hat.1,hat.2,Nat.zero_add]
 | pt k' o =>
  unfold Oa at h;simp only at h;cases hb:Nat.beq k' k<;>rw[hb]at h
  ·cases h
  ·cases Nat.eq_of_beq_eq_true hb;cases h;show Value.pointer (some ⟨(β _).1,(β _).2.1+o,none⟩)=_;rw[hat.1,hat.2,Nat.zero_add]
 | _=>cases h
theorem uV {base:Nat} {β:Nat→Bk} {a:Act} {w:World} {M:List Fact} (hM:∀φ∈M,φ.ok base β a w) {k b:Nat} (hat:(β k).1=b∧(β k).2.1=0):∀{l:List AV} {p:List Prop} {cs:List CB},XD M k b l=some (p,cs)→aP p→CBs w b cs (l.map (AV.den β))
 | [],p,cs,h,hp=>by cases h; trivial
 | v::r,p,cs,h,hp=>by
  unfold XD at h;split at h
  ·rename_i p1 c1 p2 c2 h1 h2;cases h;rw[cZ]at hp;exact⟨RY hM hat h1 hp.1,uV hM hat h2 hp.2⟩
  ·cases h
theorem lT {w:World} {j:Option Nat} {b:Nat}:∀{l:List Value} {i:Nat} {p:List Prop} {cs:List CB},RZ j b i l=(p,cs)→aP p→CBs w b cs l
 | [],i,p,cs,h,hp=>by cases h; trivial
 | v::r,i,p,cs,h,hp=>by
  unfold RZ at h;cases hr:RZ j b (i+1) r with
  | mk ps l =>
   rw[hr]at h;simp only at h;cases hb:gN j i<;>rw[hb]at h
   ·cases h;exact⟨rfl,lT hr hp⟩
   ·simp only[cond_true]at h;split at h
    ·cases h;exact⟨by rw[hp.1]; rfl,lT hr hp.2⟩
    ·cases h;exact⟨rfl,lT hr hp⟩
theorem CBs.app {w:World} {b:Nat}:∀{cs ds:List CB} {vs us:List Value},CBs w b cs vs→CBs w b ds us→CBs w b (cs++ds) (vs++us)
 | [],ds,[],us,_,h=>h
 | [],ds,_::_,us,h,_=>h.elim
 | c::cs,ds,[],us,h,_=>by cases c<;>exact h.elim
 | c::cs,ds,v::vs,us,h,h2=>⟨h.1,CBs.app h.2 h2⟩
end Go.Proofs.YtjeplinbleofnaaGreat.Ex
