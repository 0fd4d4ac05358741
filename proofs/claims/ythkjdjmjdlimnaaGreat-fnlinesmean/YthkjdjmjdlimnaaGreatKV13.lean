/- Own text. -/
import Derived.Test.YthkjdjmjdlimnaaGreatKV01
import Derived.Lib.AppendZerosOnto
import Derived.Laws.AppendOwn
namespace Go.Proofs.YthkjdjmjdlimnaaGreat
open Go.RowKit Go.Shelf
set_option linter.all false
set_option maxRecDepth 100000
set_option maxHeartbeats 16000000
variable {a:Int}{bs xs ys:List Int}{i j k n:Nat}
namespace Mm
def Zm (x:Int):Bool:=decide (0<=x/\x<=255)
def ok (xs:List Int):Bool:=(xs.length==64)&&xs.all Zm
theorem aS:ok xs=true↔xs.length=64/\∀x∈xs,0<=x/\x<=255:=by simp[ok,Zm]
theorem fT(h:ok xs=true):xs.length=64:=(aS.1 h).1
theorem abU(h:∀x∈xs,0<=x/\x<=255)(j:Nat):0<=xs.getD j 0/\xs.getD j 0<=255:=by
 rw[ah]
 cases e:xs[j]? with
 |none=>exact⟨by simp,by simp⟩
 |some v=>exact h v (List.mem_of_getElem? e)
theorem kY(h:ok xs=true)(j:Nat):0<=xs.getD j 0/\xs.getD j 0<=255:=abU (aS.1 h).2 j
theorem Mf(h:∀j,0<=xs.getD j 0/\xs.getD j 0<=255):∀x∈xs,0<=x/\x<=255:=by intro x hx;obtain⟨j,hj⟩:=List.mem_iff_getElem?.1 hx;have:=h j;rwa [ah,hj]at this
def low (xs:List Int):List Int:=xs.map fun x=>x%256
theorem Nk (xs:List Int):(low xs).length=xs.length:=by simp[low]
theorem MS (xs:List Int)(j:Nat):(low xs).getD j 0=xs.getD j 0%256:=by rw[low,ah,ah,KH];cases xs[j]?<;>simp
theorem Qx (xs:List Int)(j:Nat):0<=(low xs).getD j 0/\(low xs).getD j 0<=255:=by rw[MS];omega
theorem RH(h:xs.length=64):(low xs==xs)=ok xs:=by rw[Bool.eq_iff_iff,aS,beq_iff_eq];constructor;{intro e;refine⟨h,Mf fun j=>?_⟩;have:=Qx xs j;rwa [e]at this};rintro⟨-,hb⟩;apply List.ext_getElem (Nk xs);intro j h1 h2;have:=hb xs[j] (u7 h2);simp only[low,List.getElem_map];omega
theorem Q8(h:ok xs=true):low xs=xs:=by have:=RH (fT h);rw[h]at this;simpa using this
def cells (xs:List Int):List Int:=if ok xs=true then xs else List.replicate 64 0
theorem NN (xs:List Int):(cells xs).length=64:=by unfold cells;split;{rename_i h;exact fT h};simp
def there (a o:Int):Bool:=Wd.ok a&&Wd.dP o 0 255&&decide (a+o<=60)
theorem iU{o:Int}:there a o=true↔0<=a/\0<=o/\o<=255/\a+o<=60:=by simp only[there,au,Wd.aS,Wd.aZ,mY];omega
def jX (bs:List Int)(k:Nat):Nat->Int
 |0=>0
 |j+1=>jX bs k j+bs.getD (k+j) 0*256 ^ j
theorem vI {bs:List Int}(hb:∀j,0<=bs.getD j 0/\bs.getD j 0<=255)(k:Nat):∀j,0<=jX bs k j/\jX bs k j<256 ^ j
 |0=>⟨by simp[jX],by simp[jX]⟩
 | j+1=>by
   have h:=vI hb k j
   have h2:=hb (k+j)
   have hp:(0:Int)<256 ^ j:=Int.pow_pos (by omega)
   rw[jX,Int.pow_succ]
   have h3:bs.getD (k+j) 0*256 ^ j<=255*256 ^ j:=Int.mul_le_mul_of_nonneg_right h2.2 (by omega)
   have h4:0<=bs.getD (k+j) 0*256 ^ j:=Int.mul_nonneg h2.1 (by omega)
   omega
def iP (bs:List Int)(k:Nat)(v:Int):Nat->List Int
 |0=>bs
 |j+1=>(iP bs k v j).set (k+j) (v / 256 ^ j%256)
theorem lU (bs:List Int)(k:Nat)(v:Int):∀j,(iP bs k v j).length=bs.length
 |0=>rfl
 |j+1=>by rw[iP,uW,lU bs k v j]
theorem iH{x:Int}(hi:i<ys.length):(ys.set i x).getD j 0=if j=i then x else ys.getD j 0:=by by_cases e:j=i;{subst e;rw[az rfl,ah,Ww hi];rfl};rw[ax e,ah,R9 (by omega),←ah]
theorem Iz {bs:List Int}{k:Nat}(v:Int):∀j,k+j<=bs.length->∀i,(iP bs k v j).getD i 0=if k<=i/\i<k+j then v / 256 ^ (i-k)%256 else bs.getD i 0
 |0,_,i=>by rw[iP,ax (by omega)]
 | j +1,h,i=>by
   rw[iP,iH (by rw[lU];omega),Iz v j (by omega) i]
   by_cases e:i=k+j
   · subst e
     rw[az rfl,az (by omega),show k+j-k=j by omega]
   · rw[ax e]
     by_cases e2:k<=i/\i<k+j
     · rw[az e2,az (by omega)]
     · rw[ax e2,ax (by omega)]
theorem WU(v:Int)(j:Nat)(h:k+j<=bs.length)(hb:∀i,0<=bs.getD i 0/\bs.getD i 0<=255)(i:Nat):0<=(iP bs k v j).getD i 0/\(iP bs k v j).getD i 0<=255:=by rw[Iz v j h i];split;{exact⟨Int.emod_nonneg _ (by omega),by have:=Int.emod_lt_of_pos (v / 256 ^ (i-k)) (show(0:Int)<256 by omega);omega⟩};exact hb i
theorem RV(v:Int)(h:ok bs=true)(hk:k+4<=64):ok (iP bs k v 4)=true:=by rw[aS];exact⟨by rw[lU];exact fT h,Mf (WU v 4 (by rw[fT h];omega) (kY h))⟩
def can (xs:List Int)(a o:Int):Bool:=ok xs&&there a o
def load (xs:List Int)(a o:Int):Int:=if can xs a o=true then jX xs (a+o).toNat 4 else 0
def kZ (xs:List Int)(a o v:Int):Bool:=ok xs&&there a o&&Wd.ok v
def store (xs:List Int)(a o v:Int):List Int:=if ok xs=true then(if there a o=true/\Wd.ok v=true then iP xs (a+o).toNat v 4 else xs)else[]
theorem place{o:Int}(h:there a o=true):∃k:Nat,a+o=(k:Int)/\(a+o).toNat=k/\k+4<=64:=by have:=iU.1 h;exact⟨(a+o).toNat,by omega,rfl,by omega⟩
def Jj (s:ByteArray):List Int:=s.data.toList.map fun b=>(b.toNat:Int)
theorem pG (s:ByteArray):(Jj s).length=s.size:=by simp[Jj]
theorem Hw{s:ByteArray}(h:j<s.size):(Jj s).getD j 0=(s[j].toNat:Int):=by have h':j<s.data.size:=h;simp only[Jj,ah,KH,Array.getElem?_toList];rw[Array.getElem?_eq_getElem h'];rfl
theorem Xk (s:ByteArray):∀x∈Jj s,0<=x/\x<=255:=by intro x hx;obtain⟨b,_,rfl⟩:=List.mem_map.1 hx;have:=UInt8.toNat_lt b;omega
def new (s:ByteArray):List Int:=if s.size<=64 then Jj s++List.replicate (64-s.size) 0 else[]
theorem uk {s:ByteArray}(h:s.size<=64):ok (new s)=true:=by rw[aS,new,az h];refine⟨by rw[jy,pG,Zp];omega,fun x hx=>?_⟩;rcases List.mem_append.1 hx with h|h;{exact Xk s x h};rw[List.eq_of_mem_replicate h];omega
end Mm
namespace Wd
theorem KZ(h:n<2 ^ 32):ok (n:Int)=true:=wM (by omega) (by omega)
theorem vW (x:Int):ok (x%4294967296)=true:=wM (by omega) (by omega)
theorem L9:ok 0=true:=by decide
theorem ab9:ok 1=true:=by decide
theorem ZB (k a b:Int):ok (dv k a b)=true:=by by_cases h:ok a=true/\ok b=true;{obtain⟨ha,hb⟩:=h;by_cases hk:k<1\/12<k;{rw[←tQ hk];exact L9};have hk':k=1\/k=2\/k=3\/k=4\/k=5\/k=6\/k=7\/k=8\/k=9\/k=10\/k=11\/k=12:=by{omega};rcases hk' with rfl|rfl|rfl|rfl|rfl|rfl|rfl|rfl|rfl|rfl|rfl|rfl;{rw[←dv1 ha hb];exact vW _};{rw[←dv2 ha hb];exact vW _};{rw[←dv3 ha hb];exact vW _};{by_cases h0:sg b=0;{rw[←XD ha hb h0];exact L9};by_cases h1:sg a=-2147483648/\sg b=-1;{rw[←WY ha hb h1.1 h1.2];exact L9};rw[←WT ha hb h0 h1];exact vW _};{rw[←dv5 ha hb];obtain⟨n,rfl,hn⟩:=kS ha;obtain⟨m,rfl,hm⟩:=kS hb;rw[RY hn hm];exact KZ (abM hm)};{rw[←dv6 ha hb];obtain⟨n,rfl,hn⟩:=kS ha;obtain⟨m,rfl,hm⟩:=kS hb;rw[Zw hn hm];exact KZ (agI hn hm)};{rw[←dv7 ha hb];obtain⟨n,rfl,hn⟩:=kS ha;obtain⟨m,rfl,hm⟩:=kS hb;rw[QH hn hm];exact KZ (abX hn hm)};{rw[←dv8 ha hb];exact vW _};{rw[←dv9 ha hb];have:=abz ha (b%32).toNat;exact wM this.1 this.2};{by_cases h:a=b;{rw[←Ns ha hb h];exact ab9};rw[←MR ha hb h];exact L9};{by_cases h:sg a<sg b;{rw[←Qq ha hb h];exact ab9};rw[←Qo ha hb h];exact L9};by_cases h:a<b;{rw[←Rx ha hb h];exact ab9};rw[←QW ha hb h];exact L9};have:ok a=false\/ok b=false:=by{cases h1:ok a<;>cases h2:ok b<;>simp_all};rw[←Nf this];exact L9
theorem Ih (k a b:Int):(dc k a b=0/\ok a=true/\ok b=true)\/(dc k a b=7/\dv k a b=0)\/((dc k a b=1\/dc k a b=2)/\k=4/\dv k a b=0):=by by_cases h:ok a=true/\ok b=true;{obtain⟨ha,hb⟩:=h;by_cases hk:k<1\/12<k;{exact .inr (.inl ⟨(wX ha hb hk).symm,(tQ hk).symm⟩)};by_cases h4:k=4;{subst h4;by_cases h0:sg b=0;{exact .inr (.inr ⟨.inl (abA ha hb h0).symm,rfl,(XD ha hb h0).symm⟩)};by_cases h1:sg a=-2147483648/\sg b=-1;{exact .inr (.inr ⟨.inr (ab8 ha hb h1.1 h1.2).symm,rfl,(WY ha hb h1.1 h1.2).symm⟩)};exact .inl ⟨(Xg ha hb h0 h1).symm,ha,hb⟩};exact .inl ⟨(jN ha hb (by omega) h4).symm,ha,hb⟩};have:ok a=false\/ok b=false:=by{cases h1:ok a<;>cases h2:ok b<;>simp_all};exact .inr (.inl ⟨(QZ this).symm,(Nf this).symm⟩)
end Wd
theorem qC (z:Value)(m:Nat):(Builtin.zeroCells #[z] m).toList=List.replicate m z:=by apply List.ext_getElem;{simp[Builtin.zeroCells]};intro i h1 h2;simp[Builtin.zeroCells,Nat.mod_one]
theorem kH {P:Program}(w:World)(base:Nat)(t tn ty e:TypeId)(i:TypeInfo)(z:Value)(bytes:Nat)(kn:IntKind)(ht:P.underlying t=some (.slice e))(htn:P.underlying tn=some (.int kn))(hi:P.info? e=some i)(hz:i.zero=some z)(hsize:i.size=1)(hby:i.bytes=bytes)(hzc:z.cells=#[z])(hz1:z.oneCell'=true)(g n cap:Nat)(xs:List Value)(hown:w.ownsRow base e 1 (.slice (some ⟨g,0,none⟩) n cap) n xs)(kq:IntKind)(m:Nat)(h63:n+m<=maxLen)(hbytes:(n+m)*bytes<=140737488355328)(hbase:base<=w.heap.size):∃g' cap' w',(Builtin.append_ #[t,tn] ty #[.slice (some ⟨g,0,none⟩) n cap, .int kq m]).run P w= .ok (.slice (some ⟨g',0,none⟩) (n+m) cap') w'/\w'.ownsRow base e 1 (.slice (some ⟨g',0,none⟩) (n+m) cap') (n+m) (xs++List.replicate m z)/\w.grownBy w' (some g):=by
 subst hby
 have hx:=hown.1
 have hlen:(xs++List.replicate m z).length=(n+m)*1:=by simp at hx ⊢;omega
 rcases hown.2 with⟨h',-⟩|⟨g',cap',cur,h',hbg,hg,hnc,hcm,hcs,htake⟩
 · cases h'
 cases h'
 by_cases hroom:n+m<=cap
 · have hst:=run_storeCells_at P g (n*i.size) e (List.replicate m z) 0 cur w hg (by simp[hsize];omega) (fun u hu=>by rw[List.eq_of_mem_replicate hu];exact hz1);simp only[Nat.add_zero]at hst;have hw:IntKind.i64.wrap (m:Int)=m:=by{rw[IntKind.wrap_i64];simp only[maxLen]at h63;omega};have hneg:¬((m:Int)<0):=by{omega};have h48i:¬(281474976710656<(m:Int)*(i.bytes:Int)):=by{rw[←Int.natCast_mul];have:m*i.bytes<=(n+m)*i.bytes:=Nat.mul_le_mul_right _ (by omega);omega};refine⟨g,cap,w.setRow g (cur.toList.take (n*i.size)++List.replicate m z++cur.toList.drop (n*i.size+(List.replicate m z).length)).toArray,?_,⟨hlen, .inr ⟨g,cap,_,rfl,hbg,setRow_heap w g cur _ e _ hg,hroom,hcm,?_,?_⟩⟩,⟨rfl,rfl,rfl,by simp,fun k _ hk=>setRow_other w g k _ (fun e=>hk (by simp[e]))⟩⟩;{by_cases hm:m=0;{subst hm;simp only[List.replicate,List.append_nil,List.length_nil,Nat.add_zero,List.take_append_drop]at hst ⊢;have hw0:IntKind.i64.wrap 0=0:=by{rw[IntKind.wrap_i64];rfl};simp[Builtin.append_,run_underlying ht,run_underlying htn,sizeOf,typeInfo,zeroValue,hi,hz,asInt,asIntOf,hw0,Addr.add_lit,hnc,hst]};have hne:¬(m*i.size=0):=by{rw[hsize];omega};simp[Builtin.append_,run_underlying ht,run_underlying htn,sizeOf,typeInfo,zeroValue,hi,hz,asInt,asIntOf,hw,hroom,hneg,h48i,hne,Addr.add_lit,hzc,qC];rw[hst];simp};{simp[hsize];omega};rw[hsize,htake,←hlen];exact List.take_left
 · have holds:(Builtin.firstCells i.size n (.slice (some ⟨g,0,none⟩) n cap)).run P w.drew= .ok xs.toArray w.drew:=by rw[hsize];exact run_firstCells_some (P:=P) w.drew 1 n ⟨g,0,none⟩ n cap xs hx (fun j u hu=>by have:=hown.cells (g:=g) rfl j u hu;simpa using this)
   have hm:0<m:=by omega
   have hr:=Lib.run_append_grow_zeros (P:=P) w t tn ty e i z kq kn ht htn hi hz (some ⟨g,0,none⟩) n cap xs holds m hm (by omega) (by omega) (by simp only[maxLen]at h63;omega) (by
    have:m*i.bytes<=(n+m)*i.bytes:=Nat.mul_le_mul_right _ (by omega)
    omega) (growslice_fits (by omega) hbytes)
   refine⟨_,_,_,hr,⟨hlen, .inr ⟨w.heap.size,_,_,rfl,hbase,heap_alloc_new w.drew _,grownCap_ge w (n+m) cap e,grownCap_le_maxLen w (n+m) cap e h63,?_,?_⟩⟩,⟨rfl,rfl,rfl,by simp,fun k hk _=>by first|exact heap_alloc_old w.drew _ k hk|exact heap_alloc_old w.drew _ hk⟩⟩
   · have:=grownCap_ge w (n+m) cap e;simp[size_zeroCells,hzc]at hx ⊢;omega
   · rw[hzc];simp only[Array.toList_append,oJ,qC];rw[←oJ,←hlen];exact List.take_left
end Go.Proofs.YthkjdjmjdlimnaaGreat
