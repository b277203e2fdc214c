"""The package keeps to LANGUAGE.md: those of its rules that a walk over the code can see."""

import ast
import builtins
import pathlib
import re
import unittest

PACKAGE = pathlib.Path(__file__).resolve().parent.parent / "loftstore"
FILES = sorted(PACKAGE.glob("**/*.py"))

NODES = (
    "Module Expr Assign AugAssign If While For Return Break Continue Pass Raise Try ExceptHandler Call "
    "FunctionDef ClassDef ImportFrom arguments arg alias keyword Name Load Store Constant List Tuple Dict Set "
    "BinOp UnaryOp BoolOp Compare IfExp Attribute Subscript Slice ListComp comprehension JoinedStr FormattedValue "
    "Lambda Add Sub Mult FloorDiv Mod Pow BitAnd BitOr BitXor LShift RShift Invert Not And Or UAdd USub "
    "Eq NotEq Lt LtE Gt GtE Is IsNot In NotIn"
).split()
OWN_NAMES_OF_PYTHON = (
    "len range enumerate zip min max sum abs sorted reversed int str bool list tuple dict set frozenset isinstance "
    "ord repr any all divmod Exception ValueError TypeError KeyError IndexError LookupError ZeroDivisionError "
    "ArithmeticError OverflowError RuntimeError NotImplementedError AttributeError StopIteration"
).split()
METHODS = (
    "append clear copy count endswith extend find get index insert isalnum isalpha isdigit islower isspace isupper "
    "items join keys ljust lower lstrip partition pop remove replace reverse rfind rjust rpartition rsplit rstrip "
    "setdefault split splitlines startswith strip update upper values zfill bit_length"
).split()
WORDS_OUT = (
    r"\b(type|typing|typing_extensions|enum|Enum|IntEnum|StrEnum|Flag|IntFlag|Generic|Protocol|ABC|ABCMeta|"
    r"namedtuple|NamedTuple|TypedDict|TYPE_CHECKING|abstractmethod)\b|dataclass|overload|contextmanager"
)
# Names that the methods and the values of Python's own kinds have, without those that L26 leaves free.
TAKEN_NAMES = {name for kind in (str, int, list, dict, set, bytes, tuple) for name in dir(kind)}
FREE_METHODS = set(METHODS) | {"add", "discard"}
FREE_VALUES = set("count index title find get join lower upper split strip copy add".split())
NAMES_OUT = set(
    "register mro elements open input version_info with_traceback add_note attrgetter breakpoint builtins compile "
    "copyright credits delattr dir eval exec exit gc getattr globals hasattr help id importlib license locals "
    "methodcaller os quit setattr super sys type vars __name__ chr".split()
)
KEYWORDS = {"sorted": ("key", "reverse"), "min": ("key", "default"), "max": ("key", "default"),
            "sum": ("start",), "enumerate": ("start",), "zip": ("strict",)}
UNDERSCORED_METHODS = ("__init__", "__eq__", "__repr__", "__str__", "__len__")


def trees():
    return [(path, ast.parse(path.read_text(encoding="utf-8"))) for path in FILES]


def walked(kinds):
    return [(path, node) for path, tree in trees() for node in ast.walk(tree) if isinstance(node, kinds)]


def is_docstring(node, tree):
    return node is tree.body[0] and isinstance(node.value, ast.Constant) and isinstance(node.value.value, str)


class Language(unittest.TestCase):
    def test_the_package_holds_plain_files_alone(self):
        self.assertIn(PACKAGE / "__init__.py", FILES)
        for path in PACKAGE.iterdir():
            if path.name != "__pycache__":
                self.assertRegex(path.name, r"^([a-z][a-z0-9_]*|__init__|__main__)\.py$")

    def test_signs_rows_and_words(self):
        for path in FILES:
            text = path.read_bytes().decode("ascii")
            self.assertRegex(text, r"\A[ -~\n]*\Z", path)
            self.assertIsNone(re.search(WORDS_OUT, text), path)
            rows = text.split("\n")
            self.assertLessEqual(len(rows), 400, path)
            self.assertLessEqual(max(len(row) for row in rows), 120, path)

    def test_the_kinds_of_statements_and_expressions(self):
        for path, node in walked(ast.AST):
            self.assertIn(type(node).__name__, NODES, (path, getattr(node, "lineno", None)))

    def test_what_stands_at_the_top_of_a_file(self):
        for path, tree in trees():
            for node in tree.body:
                if isinstance(node, ast.Expr):
                    self.assertTrue(is_docstring(node, tree), (path, node.lineno))
                else:
                    self.assertIsInstance(node, (ast.ImportFrom, ast.FunctionDef, ast.ClassDef, ast.Assign))

    def test_a_statement_by_itself_is_a_call(self):
        for path, tree in trees():
            for node in ast.walk(tree):
                if isinstance(node, ast.Expr) and not is_docstring(node, tree):
                    self.assertIsInstance(node.value, ast.Call, (path, node.lineno))

    def test_imports(self):
        for path, node in walked(ast.ImportFrom):
            self.assertEqual(node.level, 0, path)
            self.assertTrue(node.module.startswith("loftstore."), (path, node.lineno))
            self.assertTrue((PACKAGE / (node.module.split(".", 1)[1] + ".py")).exists(), (path, node.lineno))
            self.assertNotIn("*", [name.name for name in node.names])

    def test_functions(self):
        for path, node in walked(ast.FunctionDef):
            where = (path, node.name)
            self.assertLessEqual(node.end_lineno - node.lineno + 1, 40, where)
            self.assertEqual(node.decorator_list, [], where)
            self.assertEqual((node.args.vararg, node.args.kwarg), (None, None), where)
            self.assertEqual((node.args.kwonlyargs, node.args.posonlyargs), ([], []), where)
            self.assertTrue(node.name in UNDERSCORED_METHODS or not node.name.startswith("_"), where)

    def test_classes(self):
        for path, node in walked(ast.ClassDef):
            self.assertEqual((node.decorator_list, node.keywords), ([], []), (path, node.name))
            self.assertLessEqual(len(node.bases), 1, (path, node.name))
            for part in node.body:
                self.assertIsInstance(part, (ast.FunctionDef, ast.Pass), (path, node.name))

    def test_loops_and_tries_have_no_closing_part(self):
        for path, node in walked((ast.For, ast.While)):
            self.assertEqual(node.orelse, [], (path, node.lineno))
        for path, node in walked(ast.Try):
            self.assertEqual(node.finalbody, [], (path, node.lineno))

    def test_names_of_pythons_own(self):
        for path, node in walked(ast.Name):
            where = (path, node.lineno, node.id)
            self.assertFalse(node.id.startswith("_"), where)
            if hasattr(builtins, node.id):
                self.assertIn(node.id, OWN_NAMES_OF_PYTHON, where)
                self.assertIsInstance(node.ctx, ast.Load, where)
        for path, node in walked(ast.arg):
            self.assertFalse(hasattr(builtins, node.arg) or node.arg.startswith("_"), (path, node.lineno, node.arg))

    def test_methods(self):
        own = [node.name for path, node in walked(ast.FunctionDef)]
        for path, node in walked(ast.Call):
            if isinstance(node.func, ast.Attribute):
                self.assertIn(node.func.attr, METHODS + own, (path, node.lineno))

    def test_constants_are_whole_numbers_and_texts(self):
        for path, node in walked(ast.Constant):
            self.assertIn(type(node.value), (int, str, bool, type(None)), (path, node.lineno))
            if isinstance(node.value, str):
                self.assertNotIn("%", node.value, (path, node.lineno))

    def test_a_name_is_bound_once_at_the_top_and_no_local_is_called_like_a_class_or_an_import(self):
        for path, tree in trees():
            imported = [name.asname or name.name for node in tree.body if isinstance(node, ast.ImportFrom)
                        for name in node.names]
            classes = [node.name for node in tree.body if isinstance(node, ast.ClassDef)]
            functions = [node.name for node in tree.body if isinstance(node, ast.FunctionDef)]
            values = [target.id for node in tree.body if isinstance(node, ast.Assign) for target in node.targets]
            top = imported + classes + functions + values
            self.assertEqual(len(top), len(set(top)), path)
            names = [node for node in ast.walk(tree) if isinstance(node, ast.Name)]
            bound = [node.id for node in names if isinstance(node.ctx, ast.Store)]
            bound += [node.arg for node in ast.walk(tree) if isinstance(node, ast.arg)]
            self.assertEqual(set(bound) & set(imported + classes), set(), path)

    def test_names_are_drawn_from_the_file_that_defines_them_and_no_two_files_from_one_another(self):
        drawn, defined = {}, {}
        for path, tree in trees():
            drawn[path.stem] = [(node.module.split(".")[1], name.name) for node in ast.walk(tree)
                                if isinstance(node, ast.ImportFrom) for name in node.names]
            defined[path.stem] = [node.name for node in tree.body if isinstance(node, (ast.FunctionDef, ast.ClassDef))]
        self.assertEqual(drawn["__init__"], [])
        for stem, pairs in drawn.items():
            for source, name in pairs:
                self.assertIn(name, defined[source], stem)
        left = dict(drawn)
        while left:
            ready = [stem for stem in left if not any(source in left for source, name in left[stem])]
            self.assertTrue(ready, sorted(left))
            left = {stem: pairs for stem, pairs in left.items() if stem not in ready}

    def test_own_methods_and_values(self):
        methods = {part.name for path, node in walked(ast.ClassDef) for part in node.body
                   if isinstance(part, ast.FunctionDef)}
        values = {node.attr for path, node in walked(ast.Attribute) if isinstance(node.ctx, ast.Store)}
        self.assertEqual(methods & values, set())
        self.assertEqual(methods & (TAKEN_NAMES - FREE_METHODS - set(UNDERSCORED_METHODS)), set())
        self.assertEqual(values & (TAKEN_NAMES - FREE_VALUES), set())
        for path, node in walked(ast.ClassDef):
            names = [part.name for part in node.body if isinstance(part, ast.FunctionDef)]
            self.assertEqual(len(names), len(set(names)), (path, node.name))

    def test_names_that_are_not_used(self):
        for path, node in walked((ast.Name, ast.Attribute, ast.FunctionDef, ast.ClassDef, ast.arg)):
            name = [getattr(node, part) for part in ("id", "attr", "name", "arg") if hasattr(node, part)][0]
            self.assertNotIn(name, NAMES_OUT, (path, node.lineno))

    def test_is_stands_beside_none_true_and_false_alone(self):
        for path, node in walked(ast.Compare):
            for operator, other in zip(node.ops, node.comparators):
                if isinstance(operator, (ast.Is, ast.IsNot)):
                    self.assertIsInstance(other, ast.Constant, (path, node.lineno))

    def test_no_annotations_no_sets_and_written_exponents_alone(self):
        for path, node in walked(ast.FunctionDef):
            self.assertIsNone(node.returns, (path, node.lineno))
        for path, node in walked(ast.arg):
            self.assertIsNone(node.annotation, (path, node.lineno))
        for path, node in walked((ast.Set, ast.Name)):
            self.assertFalse(isinstance(node, ast.Set) or node.id in ("set", "frozenset"), (path, node.lineno))
        for path, node in walked(ast.BinOp):
            if isinstance(node.op, ast.Pow):
                self.assertIsInstance(node.right, ast.Constant, (path, node.lineno))

    def test_keywords_in_calls(self):
        for path, node in walked(ast.Call):
            allowed = KEYWORDS.get(node.func.id, ()) if isinstance(node.func, ast.Name) else ()
            for keyword in node.keywords:
                self.assertIn(keyword.arg, allowed, (path, node.lineno))

    def test_one_target_in_an_assignment(self):
        for path, node in walked(ast.Assign):
            self.assertEqual(len(node.targets), 1, (path, node.lineno))
            self.assertNotIsInstance(node.targets[0], (ast.Tuple, ast.List), (path, node.lineno))

    def test_errors_are_taken_by_name(self):
        own = [node.name for path, node in walked(ast.ClassDef)]
        for path, node in walked(ast.ExceptHandler):
            self.assertIsInstance(node.type, ast.Name, (path, node.lineno))
            self.assertIn(node.type.id, own, (path, node.lineno))


if __name__ == "__main__":
    unittest.main()
